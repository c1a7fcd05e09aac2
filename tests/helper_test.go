package tests

import "strings"

// maker makes texts and numbers, the same ones in each run.
type maker struct {
	state uint64
}

func (m *maker) below(n int) int {
	m.state = m.state*6364136223846793005 + 1442695040888963407
	return int(m.state>>33) % n
}

// text has up to most bytes, out of some.
func (m *maker) text(most int, bytes string) string {
	var out strings.Builder
	for range m.below(most + 1) {
		out.WriteByte(bytes[m.below(len(bytes))])
	}
	return out.String()
}

// pick is one of several.
func (m *maker) pick(list []string) string {
	return list[m.below(len(list))]
}

// allBytes is each byte once.
func allBytes() string {
	var out strings.Builder
	for b := range 256 {
		out.WriteByte(byte(b))
	}
	return out.String()
}

// mixed is bytes of which signs, figures and what sets have are many.
func mixed() string {
	return allBytes() + strings.Repeat("%%%%%%%%0123456789abcdefABCDEF&&&&====++++    \"#<>?`{}'/:;=@[\\]^|", 4)
}
