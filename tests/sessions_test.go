package tests

import (
	"fmt"
	"math"
	"slices"
	"strings"
	"testing"

	"loop.example/guilloche/impl"
)

// answers holds what a session answers to lines, line by line; a line and its answers stand together, with an arrow between.
func answers(t *testing.T, told ...string) {
	t.Helper()
	lines, want := []string{}, ""
	for _, text := range told {
		line, answer, _ := strings.Cut(text, " -> ")
		lines = append(lines, line)
		want += answer + "\n"
	}
	if got := impl.Session(lines); got != want {
		t.Errorf("%q: got\n%s\nnot\n%s", lines, got, want)
	}
}

func TestPromise47TheExample(t *testing.T) {
	answers(t,
		"open http://A.com:80/a/../b/./c -> ok",
		"go 0 d?q#f -> ok",
		"frame 0 side x -> ok",
		"frame 0 main ../y -> ok",
		"go 1 #g -> ok",
		"go 2 http://b.com/z -> ok",
		"show -> 0  http://a.com/b/d?q#f doc 2 key 2\n  1 side http://a.com/b/x#g doc 3 key 5\n  2 main http://b.com/z doc 5 key 6\nstep 3 of 3",
		"by -1 -> ok",
		"by -1 -> ok",
		"show -> 0  http://a.com/b/d?q#f doc 2 key 2\n  1 side http://a.com/b/x doc 3 key 3\n  2 main http://a.com/y doc 4 key 4\nstep 1 of 3",
		"near 0 ->   1 http://a.com/b/c\n> 2 http://a.com/b/d?q#f\n2 seen",
		"state 0 /p s -> ok",
		"by 1 -> no 5",
		"show -> 0  http://a.com/p doc 2 key 7 state s\n  1 side http://a.com/b/x doc 3 key 3\n  2 main http://a.com/y doc 4 key 4\nstep 2 of 2",
		"find 1 main -> frame 2",
		"ask 1 -> ok",
		"go 0 http://c.com/ -> no 6",
		"free 1 -> ok",
		"go 0 http://c.com/ -> ok",
		"by -2 -> ok",
		"show -> 0  http://a.com/b/d?q#f doc 2 key 2\n  1 side http://a.com/b/x doc 3 key 3\n  2 main http://a.com/y doc 4 key 4\nstep 1 of 3",
		"url https://u:p@0x7f.1:444/a%2fb/%2e%2e/?x y#z -> what",
		"url http://256.1/ -> none",
		"what -> what",
	)
}

func TestPromise44AWindowFrameByFrame(t *testing.T) {
	w := grown(t)
	w = kept(t, w, 2, "http://b.com/x", "a b\n")
	w = asking(t, w, 2, true)
	w = asking(t, w, 1, true)
	want := "0  http://a.com/b#f doc 2 key 7\n  1 side http://a.com/s doc 3 key 3 asks\n    2 in http://b.com/x doc 5 key 5 state a b\n asks\n  3 main http://c.com/ doc 6 key 6\nstep 3 of 3\n"
	if got := impl.WindowShow(w); got != want {
		t.Errorf("got\n%s", got)
	}
	if got := impl.WindowShow(moved(t, grown(t), -2)); got != "0  http://a.com/b doc 2 key 2\n  1 side http://a.com/s doc 3 key 3\n    2 in http://b.com/ doc 4 key 4\nstep 1 of 3\n" {
		t.Errorf("got\n%s", got)
	}
	if got := impl.WindowShow(moved(t, grown(t), -3)); got != "0  http://a.com/ doc 1 key 1\nstep 0 of 3\n" {
		t.Errorf("got\n%s", got)
	}
	for why, w := range wrongWindows(t) {
		if got := impl.WindowShow(w); got != "" {
			t.Errorf("%s: %q", why, got)
		}
	}
}

// A frame's own frames stand behind it, ahead of the next one beside it, even if that was put first.
func TestPromise44InWhichOrder(t *testing.T) {
	w := opened(t, "http://a.com/")
	w = framed(t, w, 0, "a", "http://b.com/")
	w = framed(t, w, 0, "b", "http://b.com/")
	w = framed(t, w, 1, "c", "http://b.com/")
	w = framed(t, w, 2, "d", "http://b.com/")
	w = framed(t, w, 1, "e", "http://b.com/")
	order := []string{}
	for line := range strings.Lines(impl.WindowShow(w)) {
		order = append(order, strings.Join(strings.Fields(line)[:2], " "))
	}
	if want := []string{"0 http://a.com/", "1 a", "3 c", "5 e", "2 b", "4 d", "step 0"}; !slices.Equal(order, want) {
		t.Errorf("%q", order)
	}
}

func TestPromise44OfMadeWindows(t *testing.T) {
	m := &maker{state: 44}
	deep := 0
	for range 1500 {
		w := played(t, m, m.below(25))
		if m.below(3) == 0 {
			w = anyShape(t, m)
		}
		got := impl.WindowShow(w)
		if got != showTold(w) {
			t.Fatalf("%s\nis shown as\n%s\nnot\n%s", drawn(w), got, showTold(w))
		}
		if lines := strings.Count(got, "\n"); lines != len(impl.WindowLive(w))+1 {
			t.Fatalf("%s\n%d", got, lines)
		}
		if strings.Contains(got, "\n    ") {
			deep++
		}
	}
	if deep < 50 {
		t.Error(deep)
	}
}

func TestPromise45WhatHappens(t *testing.T) {
	w, u := grown(t), urlOf(t, "http://a.com/z")
	for what, c := range map[string]struct {
		e    impl.Event
		call func() (impl.Window, int)
	}{
		"go":       {impl.Event{Kind: impl.WindowIsGo, Frame: 1, Url: u}, func() (impl.Window, int) { return impl.WindowGo(w, 1, u, false) }},
		"go there": {impl.Event{Kind: impl.WindowIsGo, Url: u, Replace: true}, func() (impl.Window, int) { return impl.WindowGo(w, 0, u, true) }},
		"frame":    {impl.Event{Kind: impl.WindowIsFrame, Frame: 1, Url: u, Name: "n"}, func() (impl.Window, int) { return impl.WindowFrame(w, 1, "n", u) }},
		"state":    {impl.Event{Kind: impl.WindowIsState, Frame: 1, Url: u, State: "s"}, func() (impl.Window, int) { return impl.WindowState(w, 1, u, "s", false) }},
		"keep":     {impl.Event{Kind: impl.WindowIsState, Url: u, State: "s", Replace: true}, func() (impl.Window, int) { return impl.WindowState(w, 0, u, "s", true) }},
		"by":       {impl.Event{Kind: impl.WindowIsBy, By: -2}, func() (impl.Window, int) { return impl.WindowBy(w, -2) }},
		"key":      {impl.Event{Kind: impl.WindowIsKey, Frame: 2, Key: 4}, func() (impl.Window, int) { return impl.WindowKey(w, 2, 4) }},
		"ask":      {impl.Event{Kind: impl.WindowIsAsk, Frame: 3}, func() (impl.Window, int) { return impl.WindowAsk(w, 3, true) }},
		"free":     {impl.Event{Kind: impl.WindowIsFree, Frame: 3}, func() (impl.Window, int) { return impl.WindowAsk(w, 3, false) }},
	} {
		want, wantCode := c.call()
		got, code := impl.WindowDo(w, c.e)
		if code != wantCode || code != impl.GoFine || !sameWindow(got, want) {
			t.Errorf("%s: %d %s", what, code, drawn(got))
		}
	}
	asks := asking(t, w, 3, true)
	if free, code := impl.WindowDo(asks, impl.Event{Kind: impl.WindowIsFree, Frame: 3}); code != impl.GoFine || !sameWindow(free, w) {
		t.Error(code, drawn(free))
	}
	kinds := []int{impl.WindowIsGo, impl.WindowIsFrame, impl.WindowIsState, impl.WindowIsBy, impl.WindowIsKey, impl.WindowIsAsk, impl.WindowIsFree}
	if !slices.Equal(kinds, []int{1, 2, 3, 4, 5, 6, 7}) {
		t.Error(kinds)
	}
}

func TestPromise45WhatCannotBe(t *testing.T) {
	w, u := asking(t, grown(t), 0, true), urlOf(t, "http://a.com/z")
	for want, e := range map[int]impl.Event{
		impl.GoBad:    {Kind: impl.WindowIsGo},
		impl.GoNone:   {Kind: impl.WindowIsAsk, Frame: 4},
		impl.GoMany:   {Kind: impl.WindowIsFrame, Frame: 2, Url: u},
		impl.GoOther:  {Kind: impl.WindowIsState, Frame: 3, Url: u},
		impl.GoEnd:    {Kind: impl.WindowIsBy, By: 1},
		impl.GoRefuse: {Kind: impl.WindowIsGo, Url: u},
	} {
		refused(t, fmt.Sprint(e), w, want)(impl.WindowDo(w, e))
	}
	for _, kind := range []int{0, 8, -1, math.MaxInt, math.MinInt} {
		refused(t, fmt.Sprint("kind ", kind), w, impl.GoBad)(impl.WindowDo(w, impl.Event{Kind: kind, Url: u}))
	}
	for why, w := range wrongWindows(t) {
		for kind := range 9 {
			if got, code := impl.WindowDo(w, impl.Event{Kind: kind, Url: u}); code != impl.GoBad || !sameWindow(got, impl.Window{}) {
				t.Errorf("%s: %d %s", why, code, drawn(got))
			}
		}
	}
}

// anyEvent is one that often has no code.
func anyEvent(m *maker, w impl.Window) impl.Event {
	e := impl.Event{Kind: 1 + m.below(7), Url: anyVisit(m), By: m.below(7) - 3, Replace: m.below(4) == 0}
	e.Name, e.State = m.pick([]string{"", "a", "side", "longname", "waytoolong", "A"}), m.text(21, "s\n ")
	if impl.WindowOk(w) {
		e.Frame, e.Key = anyPlace(m, w), m.below(w.NextKey+2)
	}
	if m.below(40) == 0 {
		e.Kind = m.pickNumber([]int{0, 8, -3})
	}
	if m.below(40) == 0 {
		e.Url = m.pickUrl(wrongUrls())
	}
	return e
}

func (m *maker) pickNumber(list []int) int {
	return list[m.below(len(list))]
}

func TestPromise45And46OfMadeEvents(t *testing.T) {
	m := &maker{state: 45}
	codes := map[int]int{}
	for range 300 {
		u := anyVisit(m)
		w, _ := impl.WindowNew(u)
		var list []impl.Event
		for range m.below(43) {
			e := anyEvent(m, w)
			was := copiedWindow(w)
			got, code := impl.WindowDo(w, e)
			want, wantCode := doTold(w, e)
			if code != wantCode || !sameWindow(got, want) || !impl.WindowOk(got) || !sameWindow(w, was) {
				t.Fatalf("%+v: %d %s", e, code, drawn(got))
			}
			if code != impl.GoFine && !sameWindow(got, w) {
				t.Fatalf("%+v: %d %s", e, code, drawn(got))
			}
			codes[code]++
			w, list = got, append(list, e)
			if want, _ := impl.WindowNew(u); len(list) > 40 {
				w = want
			}
			if got := impl.WindowPlay(u, list); !sameWindow(got, w) {
				t.Fatalf("%d: %s", len(list), drawn(got))
			}
		}
	}
	for _, code := range []int{0, 1, 2, 3, 4, 5, 6} {
		if codes[code] < 10 {
			t.Error(codes)
		}
	}
}

func TestPromise46HowManyEvents(t *testing.T) {
	u := urlOf(t, "http://a.com/")
	list := slices.Repeat([]impl.Event{{Kind: impl.WindowIsAsk}, {Kind: 9}, {Kind: impl.WindowIsFree, Frame: 3}}, 20)
	for n := range 60 {
		want := opened(t, "http://a.com/")
		want.Frames[0].Asks = n >= 1 && n <= 40
		if got := impl.WindowPlay(u, list[:n]); !sameWindow(got, want) {
			t.Errorf("%d: %s", n, drawn(got))
		}
	}
	for _, u := range wrongUrls() {
		for _, n := range []int{0, 1, 40, 41} {
			if got := impl.WindowPlay(u, list[:n]); !sameWindow(got, impl.Window{}) {
				t.Errorf("%+v: %s", u, drawn(got))
			}
		}
	}
}

func TestPromise47HowManyLines(t *testing.T) {
	for _, n := range []int{0, 1, 39, 40, 41, 42, 1000} {
		lines := slices.Repeat([]string{"find 0 x"}, n)
		if got := impl.Session(lines); got != strings.Repeat("frame -1\n", min(n, 40)) {
			t.Errorf("%d: %q", n, got)
		}
	}
	if got := impl.Session(nil); got != "" {
		t.Errorf("%q", got)
	}
}

func TestPromise47WhatIsNoLine(t *testing.T) {
	good := map[string]string{
		"open": "http://a.com/", "go": "0 x", "set": "0 x", "frame": "0 n x", "state": "0 x s", "keep": "0 x s",
		"by": "0", "key": "0 1", "ask": "0", "free": "0", "show": "", "near": "0", "find": "0 n", "url": "x:y",
	}
	for name, rest := range good {
		line := strings.TrimSpace(name + " " + rest)
		words := strings.Split(line, " ")
		what := func(bad string) {
			t.Helper()
			answers(t, "open http://a.com/ -> ok", bad+" -> what")
		}
		if got := impl.Session([]string{"open http://a.com/", line}); strings.Contains(got, "what") {
			t.Errorf("%q: %q", line, got)
		}
		what(line + " x")
		what(line + " ")
		what(" " + line)
		what(strings.ToUpper(name) + strings.TrimPrefix(line, name))
		what(name + "s" + strings.TrimPrefix(line, name))
		what("x " + line)
		what(line[1:])
		what(strings.Replace(line, name, name+"\t", 1))
		for i := range words[1:] {
			what(strings.Join(words[:i+1], " "))
			if i+2 < len(words) {
				what(strings.Join(words[:i+1], " ") + " ")
			}
			what(strings.Join(words[:i+1], " ") + "  " + strings.Join(words[i+1:], " "))
			what(strings.Join(words[:i+1], " ") + "\t" + strings.Join(words[i+1:], " "))
		}
	}
	answers(t, " -> what", "  -> what", "   -> what", "hello -> what", "\n -> what", "0 -> what")
}

func TestPromise47AnEmptyTextLeadsToItself(t *testing.T) {
	begin := []string{"open http://a.com/b?q#c -> ok"}
	for line, shown := range map[string]string{
		"go 0 ":       "0  http://a.com/b?q doc 2 key 2\nstep 1 of 1",
		"set 0 ":      "0  http://a.com/b?q doc 2 key 1\nstep 0 of 0",
		"frame 0 in ": "0  http://a.com/b?q#c doc 1 key 1\n  1 in http://a.com/b?q doc 2 key 2\nstep 0 of 0",
		"frame 0  ":   "0  http://a.com/b?q#c doc 1 key 1\n  1  http://a.com/b?q doc 2 key 2\nstep 0 of 0",
		"state 0  s":  "0  http://a.com/b?q doc 1 key 2 state s\nstep 1 of 1",
		"state 0  ":   "0  http://a.com/b?q doc 1 key 2\nstep 1 of 1",
		"keep 0  s":   "0  http://a.com/b?q doc 1 key 1 state s\nstep 0 of 0",
		"keep 0  ":    "0  http://a.com/b?q doc 1 key 1\nstep 0 of 0",
	} {
		answers(t, append(begin, line+" -> ok", "show -> "+shown)...)
		// An address without a host has no text that leads but one with a sharp sign ahead, or a whole address; a frame that is not there, and an empty word in its place, have none.
		answers(t, line+" -> what", "show -> 0  about:blank doc 1 key 1\nstep 0 of 0")
		for _, frame := range []string{"1", ""} {
			answers(t, append(begin, strings.Replace(line, "0", frame, 1)+" -> what", "show -> 0  http://a.com/b?q#c doc 1 key 1\nstep 0 of 0")...)
		}
	}
	answers(t, append(begin, "go 0  -> ok", "go 0  -> ok", "show -> 0  http://a.com/b?q doc 3 key 2\nstep 1 of 1", "ask 0 -> ok", "go 0  -> no 6")...)
}

func TestPromise47EmptyNamesAndStates(t *testing.T) {
	answers(t,
		"open http://a.com/ -> ok",
		"frame 0  x -> ok",
		"frame 1  y -> ok",
		"find 0  -> frame -1",
		"find 1  -> frame -1",
		"state 0 p  -> ok",
		"keep 0 p s -> ok",
		"show -> 0  http://a.com/p doc 1 key 4 state s\n  1  http://a.com/x doc 2 key 2\n    2  http://a.com/y doc 3 key 3\nstep 1 of 1",
		"keep 0 p  -> ok",
		"show -> 0  http://a.com/p doc 1 key 4\n  1  http://a.com/x doc 2 key 2\n    2  http://a.com/y doc 3 key 3\nstep 1 of 1",
		"open  -> no 1",
		"url  -> none",
		"show -> 0  http://a.com/p doc 1 key 4\n  1  http://a.com/x doc 2 key 2\n    2  http://a.com/y doc 3 key 3\nstep 1 of 1",
	)
}

// An empty word has no figures, so it is no 0.
func TestPromise47AnEmptyWordIsNoNumber(t *testing.T) {
	for line, want := range map[string]string{
		"by ": "no 5", "key 0 ": "no 5", "key  1": "no 2", "key  ": "no 2", "ask ": "no 2", "free ": "no 2", "near ": "0 seen", "find  n": "frame -1", "find  ": "frame -1",
		"go  x": "what", "set  x": "what", "frame  n x": "what", "state  x s": "what", "keep  x s": "what",
	} {
		answers(t, "open http://a.com/ -> ok", "frame 0 n http://a.com/ -> ok", line+" -> "+want, "show -> 0  http://a.com/ doc 1 key 1\n  1 n http://a.com/ doc 2 key 2\nstep 0 of 0")
	}
}

// One blank more is one word more, wherever it stands.
func TestPromise47AWordTooManyIsEmpty(t *testing.T) {
	answers(t,
		"open http://a.com/ -> ok",
		"show  -> what", " show -> what", "open  http://b.com/ -> what", "open   -> what", "go  0 x -> what", "go 0  x -> what", "go 0   -> what",
		"frame 0 n x  -> what", "frame 0   x -> what", "state 0 p s  -> what", "keep 0 p   -> what", "by   -> what", "by  0 -> what", "key 0 1  -> what",
		"ask 0  -> what", "free  0 -> what", "near 0  -> what", "find 0  n -> what", "url  x:y -> what", "url   -> what",
		"show -> 0  http://a.com/ doc 1 key 1\nstep 0 of 0",
	)
}

func TestPromise47WhereATextLeadsNowhere(t *testing.T) {
	for _, form := range []string{"go F TEXT", "set F TEXT", "frame F n TEXT", "state F TEXT s", "keep F TEXT s"} {
		for frame, texts := range map[string][]string{
			"0": {"//", "http://256.1/", "http:", "https://a.com:x", strings.Repeat("y", 201), "//a:65536/", "/" + strings.Repeat("/", 12)},
			"1": {"x", "http://a.com/", "#f"},
			"x": {"x", "http://a.com/"},
		} {
			for _, text := range texts {
				line := strings.Replace(strings.Replace(form, "F", frame, 1), "TEXT", text, 1)
				answers(t, "open http://a.com/ -> ok", line+" -> what", "show -> 0  http://a.com/ doc 1 key 1\nstep 0 of 0")
			}
		}
	}
	answers(t, "go 0 x -> what", "go 0 #x -> ok", "show -> 0  about:blank#x doc 1 key 1\nstep 0 of 0", "set 0 x -> what", "go 0 http://a.com/ -> ok", "go 0 x -> ok", "show -> 0  http://a.com/x doc 3 key 2\nstep 1 of 1")
}

func TestPromise47WhatIsOpened(t *testing.T) {
	answers(t,
		"show -> 0  about:blank doc 1 key 1\nstep 0 of 0",
		"open http://a.com/#f -> ok",
		"frame 0 n x -> ok",
		"go 0 y -> ok",
		"ask 0 -> ok",
		"open x -> no 1",
		"open http://256.1/ -> no 1",
		"open "+strings.Repeat("http://a.com/\"", 15)+" -> no 1",
		"show -> 0  http://a.com/y doc 3 key 3 asks\nstep 1 of 1",
		"open about:blank -> ok",
		"show -> 0  about:blank doc 1 key 1\nstep 0 of 0",
		"by -1 -> no 5",
	)
}

func TestPromise47WhatLinesDo(t *testing.T) {
	answers(t,
		"open http://a.com/ -> ok",
		"go 0 b -> ok",
		"set 0 c -> ok",
		"show -> 0  http://a.com/c doc 3 key 2\nstep 1 of 1",
		"keep 0 d one -> ok",
		"show -> 0  http://a.com/d doc 3 key 2 state one\nstep 1 of 1",
		"state 0 e two -> ok",
		"show -> 0  http://a.com/e doc 3 key 3 state two\nstep 2 of 2",
		"near 0 ->   1 http://a.com/\n  2 http://a.com/d\n> 3 http://a.com/e\n3 seen",
		"key 0 1 -> ok",
		"near 0 -> > 1 http://a.com/\n  2 http://a.com/d\n  3 http://a.com/e\n3 seen",
		"key 0 9 -> no 5",
		"key 1 1 -> no 2",
		"state 0 http://b.com/ s -> no 4",
		"keep 0 x "+strings.Repeat("s", 21)+" -> no 1",
		"keep 0 x "+strings.Repeat("s", 20)+" -> ok",
		"frame 0 n f -> ok",
		"frame 0 N f -> no 1",
		"frame 0 ninebytes f -> no 1",
		"frame 1 longname f -> ok",
		"frame 2 n #g -> no 3",
		"find 0 longname -> frame 2",
		"find 2 n -> frame 1",
		"find 0 none -> frame -1",
		"find 3 n -> frame -1",
		"near 3 -> 0 seen",
		"near 2 -> > 5 http://a.com/f\n1 seen",
		"ask 2 -> ok",
		"ask 3 -> no 2",
		"free 3 -> no 2",
		"by 1 -> no 6",
		"key 0 2 -> no 6",
		"set 0 http://c.com/ -> no 6",
		"show -> 0  http://a.com/x doc 1 key 1 state "+strings.Repeat("s", 20)+"\n  1 n http://a.com/f doc 4 key 4\n    2 longname http://a.com/f doc 5 key 5 asks\nstep 0 of 2",
		"free 2 -> ok",
		"by 1 -> ok",
		"by 2 -> no 5",
	)
}

func TestPromise47WhatIsToldOfAddresses(t *testing.T) {
	answers(t,
		"url HTTP://u@WWW.A.com:80/x/../y?q#f -> http://u@www.a.com/y?q#f origin http://www.a.com site a.com",
		"url https://0x7f.1:444/ -> https://127.0.0.1:444/ origin https://127.0.0.1:444 site 127.0.0.1",
		"url http://x./ -> http://x./ origin http://x. site x",
		"url about:blank -> about:blank origin null site ",
		"url x:http://a.com/ -> x:http://a.com/ origin null site ",
		"url a.com -> none",
		"url / -> none",
		"url http:// -> none",
		"url http://"+strings.Repeat("a", 61)+"/ -> none",
	)
}

// What is told is ok: once it is written, it is read as itself, so that it has TextMax bytes at most.
func TestPromise47WhatIsTooLongOnceItIsWritten(t *testing.T) {
	for _, c := range []struct{ begin, sign, written, told string }{
		{"http://a.com/", "\"", "%22", " origin http://a.com site a.com"},
		{"https://b.a.com:81/?", "'", "%27", " origin https://b.a.com:81 site a.com"},
		{"http://1.2.3.4/#", "<", "%3C", " origin http://1.2.3.4 site 1.2.3.4"},
		{"mailto:", "\x7f", "%7F", " origin null site "},
	} {
		signs := (impl.TextMax - len(c.begin)) / 3
		letters := strings.Repeat("x", impl.TextMax-len(c.begin)-3*signs)
		text := c.begin + strings.Repeat(c.sign, signs) + letters
		full := c.begin + strings.Repeat(c.written, signs) + letters
		answers(t,
			"url "+text+" -> "+full+c.told,
			"url "+full+" -> "+full+c.told,
			"url "+text+"x -> none",
			"url "+full+"x -> none",
			"url "+text+c.sign+" -> none",
			"url "+c.begin+strings.Repeat(c.sign, impl.TextMax-len(c.begin))+" -> none",
		)
	}
	answers(t, "url http://"+strings.Repeat("@", 70)+"a.com/ -> none", "url http://"+strings.Repeat("@", 30)+"a.com/ -> http://"+strings.Repeat("%40", 29)+"@a.com/ origin http://a.com site a.com")
}

func TestPromise47WhatIsANumber(t *testing.T) {
	for word, want := range map[string]string{
		"0": "ok", "00": "ok", "000000000000000000000000": "ok", "1": "no 2", "9999": "no 2", "10000": "no 2", "18446744073709551616": "no 2",
		"-0": "no 2", "+0": "no 2", "0x0": "no 2", "a": "no 2", "0.": "no 2", "-1": "no 2", "\x00": "no 2", "٠": "no 2",
	} {
		answers(t, "ask "+word+" -> "+want)
	}
	begin := []string{"open http://a.com/ -> ok", "go 0 b -> ok", "go 0 c -> ok"}
	for word, want := range map[string]string{
		"0": "ok", "00": "ok", "-1": "ok", "-01": "ok", "-2": "ok", "-002": "ok", "-3": "no 5", "-99": "no 5", "-100": "no 5", "-0": "no 5", "-": "no 5", "--1": "no 5", "+1": "no 5",
		"1": "no 5", "99": "no 5", "1000": "no 5", "9999": "no 5", "18446744073709551615": "no 5", "-18446744073709551615": "no 5", "-18446744073709551617": "no 5", "x": "no 5", "-x": "no 5", "1-": "no 5",
	} {
		answers(t, append(begin, "by "+word+" -> "+want)...)
	}
	for word, want := range map[string]string{"1": "ok", "01": "ok", "3": "ok", "0": "no 5", "4": "no 5", "-1": "no 5", "x": "no 5"} {
		answers(t, append(begin, "key 0 "+word+" -> "+want, "key x 1 -> no 2")...)
	}
	lines := []string{"open http://a.com/"}
	for range 4 {
		lines = append(lines, "go 0 b", "go 0 c")
	}
	lines = append(lines, "by -8", "by 8", "by -08", "by 008", "by 9", "show")
	if got := impl.Session(lines); !strings.HasSuffix(got, "ok\nok\nok\nok\nno 5\n0  http://a.com/c doc 9 key 9\nstep 8 of 8\n") {
		t.Errorf("%q", got)
	}
}

// anyLine is a line that often does something.
func anyLine(m *maker) string {
	f := m.pick([]string{"0", "0", "0", "1", "1", "2", "3", "00", "x", "10000", "7", ""})
	text := m.pick([]string{"", "/", "x", "../y", "#f", "#g", "?q", "http://b.com/", "https://a.com/", "about:blank", "//", "http://256.1/", "//c.b.com:81", "http://a.com/" + strings.Repeat("\"", 63)})
	state := m.pick([]string{"", "s", "t", "tt", strings.Repeat("s", 21)})
	number := m.pick([]string{"0", "1", "2", "3", "5", "8", "-1", "-1", "-2", "-3", "-0", "x", "1000", ""})
	return m.pick([]string{
		"open http://a.com/" + m.pick([]string{"", "", "#f", "x"}),
		"go " + f + " " + text, "go " + f + " " + text, "go " + f + " " + text, "set " + f + " " + text,
		"frame " + f + " " + m.pick([]string{"", "side", "main", "main", "n", "N", "ninebytes"}) + " " + text,
		"frame " + f + " " + m.pick([]string{"side", "main"}) + " " + text,
		"frame " + m.pick([]string{"1", "2", "3"}) + " n x",
		"state " + f + " " + text + " " + state, "keep " + f + " " + text + " " + state,
		"by " + number, "by " + number, "key " + f + " " + number, "ask " + f, "free " + f, "show", "show", "near " + f,
		"find " + f + " " + m.pick([]string{"side", "main", "n", ""}), "url " + text,
		m.pick([]string{"", " ", "what", "show ", "go  0 x", "by", "open", "open ", "url", "near 0 0"}),
	})
}

func TestPromise47OfMadeSessions(t *testing.T) {
	m := &maker{state: 47}
	said := map[string]int{}
	for range 2000 {
		lines := []string{"open http://a.com/"}
		for range m.below(44) {
			lines = append(lines, anyLine(m))
		}
		lines = lines[m.below(2):]
		got := impl.Session(lines)
		if got != sessionTold(lines) {
			t.Fatalf("%q:\n%s\nnot\n%s", lines, got, sessionTold(lines))
		}
		for answer := range strings.Lines(got) {
			said[answer]++
		}
	}
	for _, answer := range []string{"ok\n", "what\n", "none\n", "no 1\n", "no 2\n", "no 3\n", "no 4\n", "no 5\n", "no 6\n", "0 seen\n", "2 seen\n", "frame 1\n", "frame -1\n"} {
		if said[answer] < 2 {
			t.Errorf("%q %d", answer, said[answer])
		}
	}
}

func TestWhatSessionsAreGivenStays(t *testing.T) {
	lines := []string{"open http://a.com/", "show", "x"}
	kept := slices.Clone(lines)
	impl.Session(lines[:2])
	list := []impl.Event{{Kind: impl.WindowIsGo, Url: urlOf(t, "http://a.com/p/q")}}
	u := urlOf(t, "http://a.com/r/s")
	got := impl.WindowPlay(u, list)
	spoilWindow(got)
	e := list[0]
	w := opened(t, "http://a.com/")
	next, _ := impl.WindowDo(w, e)
	spoilWindow(next)
	if !slices.Equal(lines, kept) || impl.UrlPut(u) != "http://a.com/r/s" || impl.UrlPut(e.Url) != "http://a.com/p/q" || !sameWindow(w, opened(t, "http://a.com/")) {
		t.Error(lines, u, e, drawn(w))
	}
	refusedNot, _ := impl.WindowDo(w, impl.Event{Kind: 9})
	spoilWindow(refusedNot)
	if !sameWindow(w, opened(t, "http://a.com/")) {
		t.Error(drawn(w))
	}
}
