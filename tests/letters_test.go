package tests

import (
	"fmt"
	"regexp"
	"slices"
	"strings"
	"testing"

	"loop.example/guilloche/impl"
)

// setsTold is what the document says each set has beside what cannot be seen.
func setsTold() map[int]string {
	return map[int]string{
		impl.SetPath:   " \"#<>?`{}",
		impl.SetQuery:  " \"#<>'",
		impl.SetFrag:   " \"<>`",
		impl.SetUser:   " \"#<>?`{}/:;=@[\\]^|",
		impl.SetOpaque: " ",
		0:              "",
		6:              "",
		-1:             "",
	}
}

func sameText(t *testing.T, what string, got string, want string) {
	t.Helper()
	if got != want {
		t.Errorf("%q: %q, not %q", what, got, want)
	}
}

func TestSetsHaveTheirNumbers(t *testing.T) {
	got := []int{impl.SetPath, impl.SetQuery, impl.SetFrag, impl.SetUser, impl.SetOpaque, impl.TextMax}
	if !slices.Equal(got, []int{1, 2, 3, 4, 5, 200}) {
		t.Error(got)
	}
}

func TestPromise1EachByteOfEachSet(t *testing.T) {
	for set, more := range setsTold() {
		for b := range 256 {
			text := string([]byte{byte(b)})
			want := text
			if b < 32 || b > 126 || strings.Contains(more, text) {
				want = fmt.Sprintf("%%%02X", b)
			}
			sameText(t, fmt.Sprint("set ", set, " byte ", b), impl.Encode(set, text), want)
		}
	}
}

func TestPromise1WrittenIsReadAsItWas(t *testing.T) {
	m := &maker{state: 1}
	for set, more := range setsTold() {
		for range 2000 {
			text := m.text(impl.TextMax/3, mixed())
			code := impl.Encode(set, text)
			sameText(t, "again", impl.Encode(set, code), code)
			sameText(t, "decoded", impl.Decode(code), impl.Decode(text))
			for i := range len(code) {
				if code[i] < 32 || code[i] > 126 || strings.IndexByte(more, code[i]) >= 0 {
					t.Fatalf("set %d: %q has byte %d", set, code, code[i])
				}
			}
		}
	}
}

func TestPromise1LimitOfEncode(t *testing.T) {
	full := strings.Repeat("\xff", impl.TextMax)
	code := impl.Encode(impl.SetPath, full)
	sameText(t, "full", code, strings.Repeat("%FF", impl.TextMax))
	sameText(t, "full, read", impl.Decode(code), full)
	sameText(t, "one more", impl.Encode(impl.SetPath, full+"a"), "")
	sameText(t, "one more, of no set", impl.Encode(0, strings.Repeat("a", impl.TextMax+1)), "")
	sameText(t, "empty", impl.Encode(impl.SetUser, ""), "")
}

func TestPromise2EachByteIsRead(t *testing.T) {
	for b := range 256 {
		want := string([]byte{byte(b)})
		sameText(t, "small", impl.Decode(fmt.Sprintf("%%%02x", b)), want)
		sameText(t, "large", impl.Decode(fmt.Sprintf("%%%02X", b)), want)
		if b != '%' {
			sameText(t, "plain", impl.Decode(want), want)
		}
	}
	sameText(t, "mixed letters", impl.Decode("%aF%Fa"), "\xaf\xfa")
}

func TestPromise2ShorterByTwoForEach(t *testing.T) {
	m := &maker{state: 2}
	signs := regexp.MustCompile("%[0-9A-Fa-f][0-9A-Fa-f]")
	for range 5000 {
		text := m.text(3*impl.TextMax, mixed())
		if got, want := len(impl.Decode(text)), len(text)-2*len(signs.FindAllString(text, -1)); got != want {
			t.Fatalf("%q: %d bytes, not %d", text, got, want)
		}
		plain := strings.ReplaceAll(text, "%", "")
		sameText(t, "without a sign", impl.Decode(plain), plain)
	}
}

func TestPromise2LimitOfDecode(t *testing.T) {
	full := strings.Repeat("%41", impl.TextMax)
	sameText(t, "full", impl.Decode(full), strings.Repeat("A", impl.TextMax))
	sameText(t, "one more", impl.Decode(full+"a"), "")
	plain := strings.Repeat("a", 3*impl.TextMax)
	sameText(t, "full, plain", impl.Decode(plain), plain)
	sameText(t, "one more, plain", impl.Decode(plain+"a"), "")
}

func TestWatchSignWithoutTwoFigures(t *testing.T) {
	for text, want := range map[string]string{
		"":        "",
		"%":       "%",
		"a%":      "a%",
		"%4":      "%4",
		"a%4":     "a%4",
		"%%":      "%%",
		"%%%":     "%%%",
		"%g1":     "%g1",
		"%1g":     "%1g",
		"%G1":     "%G1",
		"%1`":     "%1`",
		"%@1":     "%@1",
		"%/1":     "%/1",
		"%1:":     "%1:",
		"% 41":    "% 41",
		"%+4":     "%+4",
		"%-4":     "%-4",
		"%%41":    "%A",
		"%4%41":   "%4A",
		"%41%":    "A%",
		"%41%4":   "A%4",
		"%2541":   "%41",
		"%25%34":  "%4",
		"%zz%41z": "%zzAz",
	} {
		sameText(t, text, impl.Decode(text), want)
	}
}

func TestPromise3SmallLetters(t *testing.T) {
	for b := range 256 {
		text, want := string([]byte{byte(b)}), string([]byte{byte(b)})
		if b >= 65 && b <= 90 {
			want = string([]byte{byte(b + 32)})
		}
		sameText(t, "byte", impl.Lower(text), want)
	}
	sameText(t, "other letters", impl.Lower("\u00c9\u0130\xc3Z"), "\u00c9\u0130\xc3z")
	sameText(t, "empty", impl.Lower(""), "")
	m := &maker{state: 3}
	for range 500 {
		text := m.text(10*impl.TextMax, allBytes())
		low := impl.Lower(text)
		if len(low) != len(text) || strings.ContainsAny(low, "ABCDEFGHIJKLMNOPQRSTUVWXYZ") || impl.Lower(low) != low {
			t.Fatalf("%q: %q", text, low)
		}
	}
}

func TestPromise4WhatIsReadOfAQuery(t *testing.T) {
	for _, c := range []struct {
		text string
		want []impl.Pair
	}{
		{"", nil},
		{"&", nil},
		{"&&&", nil},
		{"=", []impl.Pair{{}}},
		{"a", []impl.Pair{{Name: "a"}}},
		{"a=", []impl.Pair{{Name: "a"}}},
		{"=b", []impl.Pair{{Value: "b"}}},
		{"a=b=c", []impl.Pair{{Name: "a", Value: "b=c"}}},
		{"a==", []impl.Pair{{Name: "a", Value: "="}}},
		{"b=1&a=2&b=1", []impl.Pair{{Name: "b", Value: "1"}, {Name: "a", Value: "2"}, {Name: "b", Value: "1"}}},
		{"&a=1&&b&", []impl.Pair{{Name: "a", Value: "1"}, {Name: "b"}}},
		{"+a+=+", []impl.Pair{{Name: " a ", Value: " "}}},
		{"%2b=%2B+", []impl.Pair{{Name: "+", Value: "+ "}}},
		{"%26=%3D&%3d=%2526", []impl.Pair{{Name: "&", Value: "="}, {Name: "=", Value: "%26"}}},
		{"%=%4&%+1=%zz", []impl.Pair{{Name: "%", Value: "%4"}, {Name: "% 1", Value: "%zz"}}},
		{"a;b=c;d", []impl.Pair{{Name: "a;b", Value: "c;d"}}},
	} {
		if got := impl.FormGet(c.text); !slices.Equal(got, c.want) {
			t.Errorf("%q: %q, not %q", c.text, got, c.want)
		}
	}
}

func TestPromise4EachByteIsWritten(t *testing.T) {
	const plain = "abcdefghijklmnopqrstuvwxyzABCDEFGHIJKLMNOPQRSTUVWXYZ0123456789*-._"
	for b := range 256 {
		text := string([]byte{byte(b)})
		want := fmt.Sprintf("%%%02X", b)
		if strings.Contains(plain, text) {
			want = text
		} else if text == " " {
			want = "+"
		}
		sameText(t, "name", impl.FormPut([]impl.Pair{{Name: text}}), want+"=")
		sameText(t, "value", impl.FormPut([]impl.Pair{{Value: text}}), "="+want)
	}
	sameText(t, "none", impl.FormPut(nil), "")
	sameText(t, "an empty one", impl.FormPut([]impl.Pair{{}}), "=")
	sameText(t, "two", impl.FormPut([]impl.Pair{{Name: "a", Value: "1"}, {Name: "a", Value: "2"}}), "a=1&a=2")
}

func TestPromise4PairsAreReadBack(t *testing.T) {
	m := &maker{state: 4}
	for range 5000 {
		var list []impl.Pair
		for range m.below(6) {
			list = append(list, impl.Pair{Name: m.text(15, mixed()), Value: m.text(15, mixed())})
		}
		if got := impl.FormGet(impl.FormPut(list)); !slices.Equal(got, list) {
			t.Fatalf("%q, not %q", got, list)
		}
		read := impl.FormGet(m.text(impl.TextMax/2, mixed()))
		if got := impl.FormGet(impl.FormPut(read)); !slices.Equal(got, read) {
			t.Fatalf("%q, not %q", got, read)
		}
	}
}

func TestPromise4LimitOfForms(t *testing.T) {
	value := strings.Repeat("b", 3*impl.TextMax-2)
	full := impl.FormPut([]impl.Pair{{Name: "a", Value: value}})
	sameText(t, "full", full, "a="+value)
	if got := impl.FormGet(full); !slices.Equal(got, []impl.Pair{{Name: "a", Value: value}}) {
		t.Errorf("full: %q", got)
	}
	if got := impl.FormGet(full + "b"); len(got) != 0 {
		t.Errorf("one more: %q", got)
	}
	if got := impl.FormGet(strings.Repeat("&", 3*impl.TextMax) + "a"); len(got) != 0 {
		t.Errorf("one more, of empty pieces: %q", got)
	}
	long := strings.Repeat("\n", 5*impl.TextMax)
	sameText(t, "no limit when writing", impl.FormPut([]impl.Pair{{Name: long}}), strings.Repeat("%0A", 5*impl.TextMax)+"=")
}

func TestPairsAreNewMemory(t *testing.T) {
	room := []impl.Pair{{Name: "a b", Value: "&"}, {Name: "c"}, {Name: "behind", Value: "the end"}}
	kept := slices.Clone(room)
	sameText(t, "written", impl.FormPut(room[:2]), "a+b=%26&c=")
	if !slices.Equal(room, kept) {
		t.Errorf("%q, not %q", room, kept)
	}
	one, two := impl.FormGet("a=1&b=2&c=3"), impl.FormGet("a=1&b=2&c=3")
	clear(one[:cap(one)])
	if !slices.Equal(two, []impl.Pair{{Name: "a", Value: "1"}, {Name: "b", Value: "2"}, {Name: "c", Value: "3"}}) {
		t.Errorf("%q", two)
	}
}

func TestPromise48TwoTextsOneBehindTheOther(t *testing.T) {
	m := &maker{state: 48}
	for set := range setsTold() {
		for range 1000 {
			text := m.text(impl.TextMax, mixed())
			at := m.below(len(text) + 1)
			sameText(t, text, impl.Encode(set, text[:at])+impl.Encode(set, text[at:]), impl.Encode(set, text))
		}
	}
	sameText(t, "a sign at the cut", impl.Encode(impl.SetPath, "a%")+impl.Encode(impl.SetPath, "20 "), "a%20%20")
	half := strings.Repeat("{", impl.TextMax/2)
	sameText(t, "full", impl.Encode(impl.SetPath, half)+impl.Encode(impl.SetPath, half), impl.Encode(impl.SetPath, half+half))
}

func TestPromise49PairsOfTwoQueries(t *testing.T) {
	m := &maker{state: 49}
	for range 5000 {
		a, b := m.text(30, mixed()), m.text(30, mixed())
		want := append(impl.FormGet(a), impl.FormGet(b)...)
		if got := impl.FormGet(a + "&" + b); !slices.Equal(got, want) {
			t.Fatalf("%q and %q: %q, not %q", a, b, got, want)
		}
	}
	half := strings.Repeat("a", 3*impl.TextMax/2)
	if got := impl.FormGet(half + "&" + half[1:]); len(got) != 2 {
		t.Errorf("full: %q", got)
	}
	if got := impl.FormGet(half + "&" + half); len(got) != 0 {
		t.Errorf("one more: %q", got)
	}
}
