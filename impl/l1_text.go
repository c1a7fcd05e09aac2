// Package impl: addresses of pages, and where one was.
package impl

import "strings"

// TextMax is how many bytes a text has at most.
const TextMax = 200

// Sets of bytes that are written as figures.
const (
	SetPath   = 1
	SetQuery  = 2
	SetFrag   = 3
	SetUser   = 4
	SetOpaque = 5
)

// What a set has beside the bytes that all sets have.
const (
	setPathBytes   = " \"#<>?`{}"
	setQueryBytes  = " \"#<>'"
	setFragBytes   = " \"<>`"
	setUserBytes   = setPathBytes + "/:;=@[\\]^|"
	setOpaqueBytes = " "
)

// Encode writes all bytes of a set as figures.
func Encode(set int, text string) string {
	if len(text) > TextMax {
		return ""
	}
	return encodeBy(setOf(set), text)
}

// Decode reads bytes that are written as figures.
func Decode(text string) string {
	if len(text) > 3*TextMax {
		return ""
	}
	var out strings.Builder
	for i := 0; i < len(text); i++ {
		if b, ok := decodeAt(text, i); ok {
			out.WriteByte(b)
			i += 2
		} else {
			out.WriteByte(text[i])
		}
	}
	return out.String()
}

// Lower is a text with small letters.
func Lower(text string) string {
	var out strings.Builder
	for i := 0; i < len(text); i++ {
		b := text[i]
		if b >= 'A' && b <= 'Z' {
			b += 'a' - 'A'
		}
		out.WriteByte(b)
	}
	return out.String()
}

// Pair is a name and a value.
type Pair struct {
	Name  string
	Value string
}

// FormGet reads pairs of a query.
func FormGet(text string) []Pair {
	if len(text) > 3*TextMax {
		return nil
	}
	var list []Pair
	for _, piece := range strings.Split(text, "&") {
		if piece == "" {
			continue
		}
		name, value, _ := strings.Cut(piece, "=")
		list = append(list, Pair{Name: formDecode(name), Value: formDecode(value)})
	}
	return list
}

// FormPut writes pairs as a query.
func FormPut(list []Pair) string {
	var out strings.Builder
	for i, pair := range list {
		if i > 0 {
			out.WriteByte('&')
		}
		out.WriteString(formEncode(pair.Name))
		out.WriteByte('=')
		out.WriteString(formEncode(pair.Value))
	}
	return out.String()
}

// setOf is a set by its number.
func setOf(set int) func(b byte) bool {
	more := setBytes(set)
	return func(b byte) bool {
		return b < 32 || b > 126 || strings.IndexByte(more, b) >= 0
	}
}

func setBytes(set int) string {
	switch set {
	case SetPath:
		return setPathBytes
	case SetQuery:
		return setQueryBytes
	case SetFrag:
		return setFragBytes
	case SetUser:
		return setUserBytes
	case SetOpaque:
		return setOpaqueBytes
	}
	return ""
}

// encodeBy has no limit of its own, as a query of pairs has none.
func encodeBy(has func(b byte) bool, text string) string {
	const figures = "0123456789ABCDEF"
	var out strings.Builder
	for i := 0; i < len(text); i++ {
		b := text[i]
		if has(b) {
			out.WriteByte('%')
			out.WriteByte(figures[b>>4])
			out.WriteByte(figures[b&15])
		} else {
			out.WriteByte(b)
		}
	}
	return out.String()
}

// decodeAt is the byte whose sign and two figures stand at a place, if they do.
func decodeAt(text string, at int) (byte, bool) {
	if text[at] != '%' || len(text)-at < 3 {
		return 0, false
	}
	high, low := figureValue(text[at+1]), figureValue(text[at+2])
	if high < 0 || low < 0 {
		return 0, false
	}
	return byte(16*high + low), true
}

// figureValue is what a figure is worth, to sixteen; -1 if it is none.
func figureValue(b byte) int {
	switch {
	case isFigure(b):
		return int(b - '0')
	case b >= 'a' && b <= 'f':
		return int(b-'a') + 10
	case b >= 'A' && b <= 'F':
		return int(b-'A') + 10
	}
	return -1
}

func isFigure(b byte) bool {
	return b >= '0' && b <= '9'
}

func isSmall(b byte) bool {
	return b >= 'a' && b <= 'z'
}

// formEncode leaves blanks to the end: a plus of the text itself is figures by then.
func formEncode(text string) string {
	has := func(b byte) bool {
		letter := isSmall(b) || b >= 'A' && b <= 'Z'
		return !letter && !isFigure(b) && strings.IndexByte("*-._ ", b) < 0
	}
	return strings.ReplaceAll(encodeBy(has, text), " ", "+")
}

// formDecode reads blanks first: a plus that is written as figures stays one.
func formDecode(text string) string {
	return Decode(strings.ReplaceAll(text, "+", " "))
}
