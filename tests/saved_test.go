package tests

import (
	"slices"
	"strings"
	"testing"

	"loop.example/guilloche/impl"
)

func TestPromise84WhatIsSavedOfAWindow(t *testing.T) {
	w := grown(t)
	w = kept(t, w, 1, "http://a.com/q", "a\x00\xff b\n")
	w = asking(t, w, 2, true)
	w = asking(t, w, 0, true)
	want := strings.Join([]string{
		"window 3 7 8",
		"frame 0 - asks",
		"entry 0 1 1 - http://a.com/",
		"entry 1 2 2 - http://a.com/b",
		"entry 3 2 7 - http://a.com/b#f",
		"frame 2 side free",
		"entry 1 3 3 6100ff20620a http://a.com/q",
		"frame 3 in asks",
		"entry 1 4 4 - http://b.com/",
		"entry 2 5 5 - http://b.com/x",
		"frame 2 main free",
		"entry 2 6 6 - http://c.com/", ""}, "\n")
	if got := impl.WindowPut(w); got != want {
		t.Errorf("got\n%s", got)
	}
	if got, ok := impl.WindowGet(want); !ok || !sameWindow(got, w) {
		t.Errorf("%v %s", ok, drawn(got))
	}
	if got := impl.WindowPut(opened(t, "about:blank#a b")); got != "window 0 2 2\nframe 0 - free\nentry 0 1 1 - about:blank#a%20b\n" {
		t.Errorf("%q", got)
	}
}

func TestPromise84OfWhatIsNotOk(t *testing.T) {
	for why, w := range wrongWindows(t) {
		if got := impl.WindowPut(w); got != "" {
			t.Errorf("%s: %q", why, got)
		}
	}
	for _, text := range []string{"", "\n", "x\n", "window 0 2 2\n", "frame 0 - free\nentry 0 1 1 - about:blank\n"} {
		noWindow(t, text)
	}
}

// noWindow holds that a text is not read.
func noWindow(t *testing.T, text string) {
	t.Helper()
	if w, ok := impl.WindowGet(text); ok || !sameWindow(w, impl.Window{}) {
		t.Errorf("%q: %v %s", text, ok, drawn(w))
	}
}

func TestPromise84WhatIsNotReadAsAWindow(t *testing.T) {
	text := "window 1 3 3\nframe 0 - free\nentry 0 1 1 - http://a.com/\nentry 1 2 2 6a http://b.com/#f\nframe 2 in asks\nentry 1 3 3 - x:y\n"
	text = strings.Replace(text, "window 1 3 3", "window 1 4 4", 1)
	if w, ok := impl.WindowGet(text); !ok || impl.WindowPut(w) != text {
		t.Fatal(drawn(w))
	}
	for _, c := range [][2]string{
		{"window", "Window"}, {"window 1", "window  1"}, {"window 1 4 4", "window 1 4 4 "}, {"window 1 4 4", "window 1 4"}, {"window 1 4 4", "window 1 4 4 4"},
		{"window 1", "window 01"}, {"window 1", "window +1"}, {"window 1", "window -1"}, {"window 1", "window 2"}, {"window 1", "window x"}, {"window 1", "window 1x"}, {"window 1", "window 18446744073709551617"},
		{"1 4 4\n", "1 2 4\n"}, {"1 4 4\n", "1 4 2\n"}, {"1 4 4\n", "1 10000 4\n"}, {"1 4 4\n", "1 4 4\r\n"},
		{"window 1 4 4\n", ""}, {"window 1 4 4\n", "window 1 4 4\nwindow 1 4 4\n"}, {"window 1 4 4\n", "\nwindow 1 4 4\n"},
		{"frame 0", "frame 00"}, {"frame 0", "frame -0"}, {"frame 0", "frame 1"}, {"frame 0 - free", "frame 0 free"}, {"frame 0 - free", "frame 0  free"}, {"frame 0 - free", "frame 0 - freed"}, {"frame 0 - free", "frame 0 - "}, {"frame 0 - free", "frame 0 -"}, {"frame 0 - free", "frame 0 - free free"},
		{"2 in asks", "2 in ask"}, {"2 in asks", "2 In asks"}, {"2 in asks", "2 -- asks"}, {"2 in asks", "2 -in asks"}, {"2 in asks", "2 ninebytes asks"}, {"2 in asks", "3 in asks"}, {"2 in asks", "9 in asks"}, {"2 in asks", "2 in Asks"},
		{"frame 0 - free\n", ""}, {"frame 2 in asks\n", ""}, {"frame 0 - free\n", "frame 0 - free\nframe 0 - free\n"},
		{"entry 0 1 1 - http://a.com/\n", ""}, {"entry 0", "entry 00"}, {"entry 0", "entry 1"}, {"entry 1 2 2", "entry 1 2 1"}, {"entry 1 2 2", "entry 1 0 2"}, {"entry 1 2 2", "entry 1 2 0"}, {"entry 1 2 2", "entry 1 2 9"},
		{" 6a ", " 6A "}, {" 6a ", " 6 "}, {" 6a ", " 6a6 "}, {" 6a ", " 6g "}, {" 6a ", " -- "}, {" 6a ", " -6a "}, {" 6a ", "  "}, {" 6a ", " 6a 6a "}, {" 6a ", " " + strings.Repeat("6a", 21) + " "},
		{"http://a.com/", "http://a.com"}, {"http://a.com/", "http://A.com/"}, {"http://a.com/", "http:a.com/"}, {"http://a.com/", "http://a.com:80/"}, {"http://a.com/", "http://a.com/x/../"}, {"http://a.com/", "http://a.com/\t"}, {"http://a.com/", "http://a.com/ "}, {"http://a.com/", "http://a.com/\r"}, {"http://a.com/", ""}, {"http://a.com/", "a.com"}, {"http://a.com/", "http://a.com/\n"}, {" http://a.com/", ""}, {"http://b.com/#f", "http://b.com/#f#\""}, {"#f", "# f"},
		{"x:y\n", "x:y"}, {"x:y\n", "x:y\nx\n"}, {"x:y\n", "x:y\n\n"}, {"x:y\n", "x:y\n "}, {"x:y\n", "x:y\nwindow 1 4 4\n"}, {"x:y\n", "x:y\nentry 2 3 3 - x:y\n"}, {"x:y\n", "x:y\nframe 3 - free\n"},
	} {
		bad := strings.Replace(text, c[0], c[1], 1)
		if bad == text {
			t.Errorf("%q is not there", c[0])
		}
		noWindow(t, bad)
	}
	for cut := range text {
		if !strings.HasSuffix(text[:cut], "#f\n") {
			noWindow(t, text[:cut])
		}
		noWindow(t, text[cut+1:])
	}
	noWindow(t, text+text)
}

func TestPromise84LimitsOfWindows(t *testing.T) {
	w := opened(t, longUrl(t, "http://a.com/", 200))
	for _, name := range []string{"", "a", "longname", "b", "b", "", "z"} {
		w = framed(t, w, 0, name, "http://a.com/")
	}
	w = kept(t, w, 7, "http://a.com/", strings.Repeat("\xff", 20))
	for len(w.Frames[3].Hist) < 20 {
		w = stated(t, w, 3, "http://a.com/x", "-")
	}
	w.NextDoc, w.NextKey = 9999, 9999
	if got, ok := impl.WindowGet(impl.WindowPut(w)); !ok || !sameWindow(got, w) {
		t.Error(drawn(got))
	}
	climb := opened(t, "http://a.com/")
	for range 3 {
		climb = framed(t, climb, 0, "", "http://b.com/")
	}
	for step := range 60 {
		climb = went(t, climb, 1+step%3, []string{"http://c.com/", "http://d.com/"}[step/3%2])
		if step%3 == 2 && len(climb.Frames[1].Hist) == 20 {
			break
		}
	}
	if got, ok := impl.WindowGet(impl.WindowPut(climb)); !ok || !sameWindow(got, climb) || climb.Step < 57 {
		t.Error(drawn(got))
	}
}

func TestPromise84OfMadeWindows(t *testing.T) {
	m := &maker{state: 84}
	bad, other := 0, 0
	for range 1500 {
		w := played(t, m, m.below(20))
		if m.below(4) == 0 {
			w = anyShape(t, m)
		}
		text := impl.WindowPut(w)
		if text != windowPutTold(w) {
			t.Fatalf("%q, not %q", text, windowPutTold(w))
		}
		if got, ok := impl.WindowGet(text); !ok || !sameWindow(got, w) {
			t.Fatalf("%q: %s", text, drawn(got))
		}
		for range 4 {
			word := bent(m, text)
			got, ok := impl.WindowGet(word)
			want, wantOk := windowGetTold(word)
			if ok != wantOk || !sameWindow(got, want) || ok && impl.WindowPut(got) != word {
				t.Fatalf("%q: %v %s", word, ok, drawn(got))
			}
			if !ok {
				bad++
			} else if word != text {
				other++
			}
		}
	}
	if bad < 1000 || other < 50 {
		t.Error(bad, other)
	}
}

func TestPromise76WhatIsSavedOfCookies(t *testing.T) {
	jar := []impl.Cookie{
		{Name: "__Host-s", Value: "a!b", Domain: "1.2.3.4", Alone: true, Path: "/", Until: 2000001, Safe: true, Made: 1000000},
		{Name: "-", Domain: "a.com.", Path: "/ \n\xff", Same: impl.SameStrict, Made: 7},
		{Name: "t", Value: "-", Domain: "a.com", Alone: true, Path: "/x", Until: 1, Same: impl.SameLax},
	}
	want := "__Host-s 612162 1.2.3.4 1 2f 2000001 1 0 1000000\n- - a.com. 0 2f200aff 0 0 2 7\nt 2d a.com 1 2f78 1 0 1 0\n"
	if got := impl.JarSave(jar); got != want {
		t.Errorf("%q", got)
	}
	if got, ok := impl.JarLoad(want); !ok || !slices.Equal(got, jar) {
		t.Errorf("%v %+v", ok, got)
	}
	for _, none := range [][]impl.Cookie{nil, {}} {
		if got := impl.JarSave(none); got != "" {
			t.Errorf("%q", got)
		}
	}
	if got, ok := impl.JarLoad(""); !ok || len(got) != 0 {
		t.Errorf("%v %+v", ok, got)
	}
	for why, wrong := range wrongJars() {
		if got := impl.JarSave(wrong); got != "" {
			t.Errorf("%s: %q", why, got)
		}
	}
}

// noJar holds that a text is not read.
func noJar(t *testing.T, text string) {
	t.Helper()
	if jar, ok := impl.JarLoad(text); ok || len(jar) != 0 {
		t.Errorf("%q: %v %+v", text, ok, jar)
	}
}

func TestPromise76WhatIsNotReadAsCookies(t *testing.T) {
	line := "s 6a a.com 1 2f 9 1 0 5\n"
	text := line + "t - b.a.com 0 2f78 0 0 1 0\n"
	if jar, ok := impl.JarLoad(text); !ok || len(jar) != 2 || impl.JarSave(jar) != text {
		t.Fatal(jar)
	}
	for _, c := range [][2]string{
		{"s 6a", " 6a"}, {"s 6a", "6a"}, {"s 6a", "s  6a"}, {"s 6a", " s 6a"}, {"s 6a", "; 6a"}, {"t -", "__Host-t -"}, {"s 6a", strings.Repeat("s", 21) + " 6a"},
		{"6a", "6A"}, {"6a", "6"}, {"6a", "6a6"}, {"6a", "zz"}, {"6a", ""}, {"6a", "--"}, {"6a", "3b"}, {"6a", strings.Repeat("6a", 21)},
		{" a.com", " A.com"}, {" a.com", " ."}, {" a.com", " 1.2.3"}, {" a.com", ""}, {"b.a.com 0", "1.2.3.4 0"},
		{"com 1 2f", "com 2 2f"}, {"com 1 2f", "com 01 2f"}, {"com 1 2f", "com  2f"}, {"com 1 2f", "com yes 2f"},
		{"2f ", "2F "}, {"2f ", "- "}, {"2f ", "61 "}, {"2f ", "/ "}, {"2f ", strings.Repeat("2f", 201) + " "},
		{" 9 1", " 09 1"}, {" 9 1", " -9 1"}, {" 9 1", " +9 1"}, {" 9 1", " 2000002 1"}, {" 9 1", " x 1"}, {" 9 1", " - 1"}, {" 9 1", " 18446744073709551625 1"},
		{"9 1 0", "9 0 0"}, {"9 1 0", "9 2 0"}, {"9 1 0", "9 1 3"}, {"9 1 0", "9 1 -1"}, {"9 1 0", "9 1 00"}, {"1 0 5", "1 0 05"}, {"1 0 5", "1 0 1000001"}, {"1 0 5", "1 0"}, {"1 0 5", "1 0 5 5"}, {"1 0 5", "1 0 5 "}, {"1 0 5", "1 0 5\r"},
		{"1 0\n", "1 0"}, {"1 0\n", "1 0\n\n"}, {"1 0\n", "1 0\nx\n"}, {"1 0\n", "1 0\nx"}, {"t -", "\nt -"}, {"t -", "\tt -"}, {"t -", "x\nt -"}, {"5\nt", "5 t"},
	} {
		bad := strings.Replace(text, c[0], c[1], 1)
		if bad == text {
			t.Errorf("%q is not there", c[0])
		}
		noJar(t, bad)
	}
	for cut := range line {
		if cut > 0 {
			noJar(t, line[:cut])
		}
	}
	noJar(t, line+line)
	noJar(t, "\n")
	noJar(t, " ")
}

func TestPromise76LimitsOfCookies(t *testing.T) {
	long := changed(func(c *impl.Cookie) {
		c.Name, c.Value, c.Path = strings.Repeat("~", 20), strings.Repeat("!", 20), "/"+strings.Repeat("\x00", 199)
	})
	for n := range 13 {
		jar := jarOf(make([]int, n)...)
		if n > 0 {
			jar[n-1] = long
		}
		text := jarSaveTold(jar[:min(n, 10)])
		for _, c := range jar[min(n, 10):] {
			text += strings.Replace(impl.JarSave([]impl.Cookie{c}), "~", string([]byte{byte('a' + n)}), 1)
		}
		if got, ok := impl.JarLoad(text); ok != (n <= 10) || ok && !slices.Equal(got, jar) {
			t.Errorf("%d: %v %+v", n, ok, got)
		}
	}
}

func TestPromise76OfMadeCookies(t *testing.T) {
	m := &maker{state: 76}
	bad, other := 0, 0
	for range 4000 {
		jar := anyJar(m)
		text := impl.JarSave(jar)
		if text != jarSaveTold(jar) {
			t.Fatalf("%q, not %q", text, jarSaveTold(jar))
		}
		if got, ok := impl.JarLoad(text); !ok || !slices.Equal(got, jar) {
			t.Fatalf("%q: %+v", text, got)
		}
		word := bent(m, text)
		got, ok := impl.JarLoad(word)
		want, wantOk := jarLoadTold(word)
		if ok != wantOk || !slices.Equal(got, want) || ok && impl.JarSave(got) != word {
			t.Fatalf("%q: %v %+v", word, ok, got)
		}
		if !ok {
			bad++
		} else if word != text {
			other++
		}
	}
	if bad < 500 || other < 50 {
		t.Error(bad, other)
	}
}
