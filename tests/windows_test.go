package tests

import (
	"fmt"
	"math"
	"slices"
	"strings"
	"testing"

	"loop.example/guilloche/impl"
)

// grown is a window with frames as deep as may be, and entries at each step up to the last, 3.
func grown(t *testing.T) impl.Window {
	t.Helper()
	w := opened(t, "http://a.com/")
	w = went(t, w, 0, "http://a.com/b")
	w = framed(t, w, 0, "side", "http://a.com/s")
	w = framed(t, w, 1, "in", "http://b.com/")
	w = went(t, w, 2, "http://b.com/x")
	w = framed(t, w, 0, "main", "http://c.com/")
	return went(t, w, 0, "http://a.com/b#f")
}

// wrongWindows is windows that are not ok, each for one reason alone.
func wrongWindows(t *testing.T) map[string]impl.Window {
	t.Helper()
	all := map[string]impl.Window{}
	wrong := func(why string, change func(w *impl.Window)) {
		w := grown(t)
		change(&w)
		all[why] = w
	}
	wrong("nothing", func(w *impl.Window) { *w = impl.Window{} })
	wrong("no frames", func(w *impl.Window) { w.Frames = nil })
	wrong("too many frames", func(w *impl.Window) {
		for key := 8; key < 13; key++ {
			w.Frames = append(w.Frames, impl.Frame{Within: 2, Hist: []impl.Entry{entry(t, 1, "http://a.com/", key)}})
		}
		w.NextDoc, w.NextKey = 13, 13
	})
	wrong("a step below 0", func(w *impl.Window) { w.Step = -1 })
	wrong("a step of no entry", func(w *impl.Window) { w.Step = 4 })
	wrong("a step above StepMax", func(w *impl.Window) { w.Step, w.Frames[0].Hist[2].Step = 61, 61 })
	wrong("a next document below 2", func(w *impl.Window) { w.NextDoc = 1 })
	wrong("a next document above 9999", func(w *impl.Window) { w.NextDoc = 10000 })
	wrong("a next key below 2", func(w *impl.Window) { w.NextKey = 1 })
	wrong("a next key above 9999", func(w *impl.Window) { w.NextKey = 10000 })
	wrong("a document that is none", func(w *impl.Window) { w.Frames[0].Hist[0].Doc = 0 })
	wrong("a key that is none", func(w *impl.Window) { w.Frames[0].Hist[0].Key = 0 })
	wrong("a document that is the next one", func(w *impl.Window) { w.NextDoc = 6 })
	wrong("a key that is the next one", func(w *impl.Window) { w.NextKey = 7 })
	wrong("a document of two frames", func(w *impl.Window) { w.Frames[3].Hist[0].Doc = 1 })
	wrong("a key of two frames", func(w *impl.Window) { w.Frames[3].Hist[0].Key = 1 })
	wrong("a key of two entries", func(w *impl.Window) { w.Frames[2].Hist[0].Key = 5 })
	wrong("the top within a page", func(w *impl.Window) { w.Frames[0].Within = 6 })
	wrong("the top within its own page", func(w *impl.Window) { w.Frames[0].Within = 1 })
	wrong("a second top", func(w *impl.Window) { w.Frames[3].Within = 0 })
	wrong("within a page that no frame has", func(w *impl.Window) { w.NextDoc, w.Frames[3].Within = 9, 7 })
	wrong("within a page below 0", func(w *impl.Window) { w.Frames[3].Within = -2 })
	wrong("within its own page", func(w *impl.Window) { w.Frames[3].Within = 6 })
	wrong("within each other", func(w *impl.Window) { w.Frames[1].Within = 5 })
	wrong("too deep", func(w *impl.Window) { w.Frames[3].Within = 4 })
	wrong("a name that is too long", func(w *impl.Window) { w.Frames[3].Name = "ninebytes" })
	wrong("a capital letter in a name", func(w *impl.Window) { w.Frames[3].Name = "mAin" })
	wrong("a name of the top", func(w *impl.Window) { w.Frames[0].Name = "t0p" })
	wrong("a frame without entries", func(w *impl.Window) { w.Frames[3].Hist = nil })
	wrong("a top without entries", func(w *impl.Window) { w.Frames[0].Hist = nil })
	wrong("a top that begins later", func(w *impl.Window) { w.Frames[0].Hist = w.Frames[0].Hist[1:] })
	wrong("a frame turned round", func(w *impl.Window) { slices.Reverse(w.Frames[2].Hist) })
	wrong("an address", func(w *impl.Window) { w.Frames[2].Hist[0].Url.Port = 80 })
	wrong("no address", func(w *impl.Window) { w.Frames[0].Hist[2].Url = impl.Url{} })
	wrong("a text that is too long", func(w *impl.Window) { w.Frames[1].Hist[0].State = strings.Repeat("s", 21) })
	return all
}

func TestLimitsAndCodesOfWindows(t *testing.T) {
	if impl.FrameMax != 8 || impl.DeepMax != 3 || impl.NameMax != 8 {
		t.Error(impl.FrameMax, impl.DeepMax, impl.NameMax)
	}
	codes := []int{impl.GoFine, impl.GoBad, impl.GoNone, impl.GoMany, impl.GoOther, impl.GoEnd, impl.GoRefuse}
	if !slices.Equal(codes, []int{0, 1, 2, 3, 4, 5, 6}) {
		t.Error(codes)
	}
}

func TestPromise29OnePage(t *testing.T) {
	draws(t, opened(t, "http://a.com/p?q#f"), "at 0 next 2 2", "0  [0 http://a.com/p?q#f d1 k1 ]")
	m := &maker{state: 29}
	for range 200 {
		u := anyUrl(m)
		w, ok := impl.WindowNew(u)
		if !ok || !impl.WindowOk(w) || !slices.Equal(impl.WindowLive(w), []int{0}) || !slices.Equal(impl.WindowSteps(w), []int{0}) {
			t.Fatalf("%+v: %v %s", u, ok, drawn(w))
		}
		if e, ok := impl.WindowNow(w, 0); !ok || !sameEntry(e, impl.Entry{Url: u, Doc: 1, Key: 1}) {
			t.Fatalf("%+v: %v", u, e)
		}
		for _, by := range []int{-1, 1, 2, -60, math.MinInt, math.MaxInt} {
			refused(t, "there is nothing ahead or behind", w, impl.GoEnd)(impl.WindowBy(w, by))
		}
	}
	for _, u := range wrongUrls() {
		if w, ok := impl.WindowNew(u); ok || !sameWindow(w, impl.Window{}) {
			t.Errorf("%+v is opened: %s", u, drawn(w))
		}
	}
}

func TestPromise30WhatIsOk(t *testing.T) {
	w := grown(t)
	draws(t, w, "at 3 next 7 8",
		"0  [0 http://a.com/ d1 k1 ] [1 http://a.com/b d2 k2 ] [3 http://a.com/b#f d2 k7 ]",
		"2 side [1 http://a.com/s d3 k3 ]",
		"3 in [1 http://b.com/ d4 k4 ] [2 http://b.com/x d5 k5 ]",
		"2 main [2 http://c.com/ d6 k6 ]")
	for why, change := range map[string]func(w *impl.Window){
		"as it is":             func(w *impl.Window) {},
		"any step of an entry": func(w *impl.Window) { w.Step = 2 },
		"the first step":       func(w *impl.Window) { w.Step = 0 },
		"the last numbers":     func(w *impl.Window) { w.NextDoc, w.NextKey = 9999, 9999 },
		"the last document and key": func(w *impl.Window) {
			w.NextDoc, w.NextKey, w.Frames[3].Hist[0].Doc, w.Frames[3].Hist[0].Key = 9999, 9999, 9998, 9998
		},
		"StepMax":                    func(w *impl.Window) { w.Step, w.Frames[0].Hist[2].Step = 60, 60 },
		"another order":              func(w *impl.Window) { slices.Reverse(w.Frames[1:]) },
		"a name of the top":          func(w *impl.Window) { w.Frames[0].Name = "topmost" },
		"a name twice":               func(w *impl.Window) { w.Frames[1].Name = "main" },
		"no names":                   func(w *impl.Window) { w.Frames[1].Name, w.Frames[2].Name = "", "" },
		"the longest name":           func(w *impl.Window) { w.Frames[1].Name = "azazazaz" },
		"all of them ask":            func(w *impl.Window) { w.Frames[0].Asks, w.Frames[2].Asks = true, true },
		"a frame ahead of its page":  func(w *impl.Window) { w.Frames[3].Hist[0].Step = 0 },
		"a page, another, and again": func(w *impl.Window) { w.Frames[0].Hist[2].Doc = 1 },
		"FrameMax": func(w *impl.Window) {
			for key := 8; key < 12; key++ {
				w.Frames = append(w.Frames, impl.Frame{Within: 3, Hist: []impl.Entry{entry(t, 9, "http://a.com/", key)}})
			}
			w.NextDoc, w.NextKey = 12, 12
		},
	} {
		w := copiedWindow(w)
		change(&w)
		if !impl.WindowOk(w) || !okTold(w) {
			t.Errorf("%s: %s", why, drawn(w))
		}
	}
	for why, w := range wrongWindows(t) {
		if impl.WindowOk(w) || okTold(w) {
			t.Errorf("%s: %s", why, drawn(w))
		}
	}
}

func TestPromise30AnythingIsOkAsTold(t *testing.T) {
	m := &maker{state: 300}
	yes, no := 0, 0
	for range 600 {
		w := played(t, m, m.below(20))
		for range 1 + m.below(3) {
			bend(m, &w)
		}
		ok := impl.WindowOk(w)
		if ok != okTold(w) {
			t.Fatalf("%v: %s", ok, drawn(w))
		}
		if ok {
			yes++
		} else {
			no++
		}
	}
	if yes < 100 || no < 100 {
		t.Error(yes, no)
	}
}

func TestPromises29To43OfWhatIsNotOk(t *testing.T) {
	u := urlOf(t, "http://a.com/")
	for why, w := range wrongWindows(t) {
		if live, steps := impl.WindowLive(w), impl.WindowSteps(w); len(live) != 0 || len(steps) != 0 {
			t.Error(why, live, steps)
		}
		for frame := -1; frame < 5; frame++ {
			if e, ok := impl.WindowNow(w, frame); ok || !sameEntry(e, impl.Entry{}) {
				t.Error(why, e)
			}
			if near, at := impl.WindowNear(w, frame); len(near) != 0 || at != -1 {
				t.Error(why, near, at)
			}
			if at := impl.WindowFind(w, frame, "main"); at != -1 {
				t.Error(why, at)
			}
			for what := range moveKinds {
				next, code := move{what: what, frame: frame, u: u, replace: true}.do(w)
				if code != impl.GoBad || !sameWindow(next, impl.Window{}) {
					t.Errorf("%s: code %d, %s", why, code, drawn(next))
				}
			}
		}
	}
}

func TestPromise30FramesThatAreThere(t *testing.T) {
	w := grown(t)
	for by, want := range [][]int{{0, 1, 2, 3}, {0, 1, 2, 3}, {0, 1, 2}, {0}} {
		if got := impl.WindowLive(moved(t, w, -by)); !slices.Equal(got, want) {
			t.Errorf("%d back: %v, not %v", by, got, want)
		}
	}
	m := &maker{state: 30}
	less := 0
	for range 400 {
		w := anyShape(t, m)
		live := impl.WindowLive(w)
		if !slices.Equal(live, liveTold(w)) || len(live) == 0 || live[0] != 0 {
			t.Fatalf("%v of %s", live, drawn(w))
		}
		here := pages(w)
		for place := -1; place <= len(w.Frames); place++ {
			e, ok := impl.WindowNow(w, place)
			if ok != slices.Contains(live, place) {
				t.Fatalf("%d, %v of %s", place, ok, drawn(w))
			}
			if !ok {
				if !sameEntry(e, impl.Entry{}) {
					t.Fatalf("%d: %v", place, e)
				}
				continue
			}
			if hist := w.Frames[place].Hist; !sameEntry(e, hist[impl.HistAt(hist, w.Step)]) {
				t.Fatalf("%d: %v", place, e)
			}
			if place > 0 && !slices.Contains(here, w.Frames[place].Within) {
				t.Fatalf("%d is not within a page of %v", place, here)
			}
		}
		if len(live) < len(w.Frames) {
			less++
		}
	}
	if less < 50 {
		t.Error(less)
	}
	for _, place := range []int{math.MinInt, -1, 4, 8, math.MaxInt} {
		if e, ok := impl.WindowNow(w, place); ok || !sameEntry(e, impl.Entry{}) {
			t.Error(place, e)
		}
	}
}

func TestPromise31StepsAtWhichSomethingIs(t *testing.T) {
	if got := impl.WindowSteps(grown(t)); !slices.Equal(got, []int{0, 1, 2, 3}) {
		t.Error(got)
	}
	m := &maker{state: 31}
	for range 300 {
		w := anyShape(t, m)
		steps := impl.WindowSteps(w)
		if !slices.Equal(steps, stepsTold(w)) || steps[0] != 0 || !slices.Contains(steps, w.Step) {
			t.Fatalf("%v of %s", steps, drawn(w))
		}
		for i := 1; i < len(steps); i++ {
			if steps[i-1] >= steps[i] {
				t.Fatal(steps)
			}
		}
	}
}

func TestPromise32AFrameIsPut(t *testing.T) {
	w := moved(t, grown(t), -2)
	draws(t, framed(t, w, 1, "", "https://x/#"), "at 1 next 8 9",
		"0  [0 http://a.com/ d1 k1 ] [1 http://a.com/b d2 k2 ] [3 http://a.com/b#f d2 k7 ]",
		"2 side [1 http://a.com/s d3 k3 ]",
		"3 in [1 http://b.com/ d4 k4 ] [2 http://b.com/x d5 k5 ]",
		"2 main [2 http://c.com/ d6 k6 ]",
		"3  [1 https://x/# d7 k8 ]")
	m := &maker{state: 32}
	put := 0
	for range 300 {
		w := anyShape(t, m)
		over, u, name := anyPlace(m, w), anyNear(m), m.text(8, "abz")
		if !impl.UrlOk(u) {
			continue
		}
		next, code := holds(t, w, move{what: toFrame, frame: over, u: u, text: name})
		if code != impl.GoFine {
			continue
		}
		put++
		last := len(next.Frames) - 1
		page, _ := impl.WindowNow(w, over)
		e, there := impl.WindowNow(next, last)
		if last != len(w.Frames) || !there || !sameUrl(e.Url, u) || e.Doc != w.NextDoc || e.Key != w.NextKey || e.State != "" {
			t.Fatalf("%v in %s", e, drawn(next))
		}
		if f := next.Frames[last]; f.Within != page.Doc || f.Name != name || f.Asks || len(f.Hist) != 1 {
			t.Fatalf("%+v", f)
		}
		if !slices.EqualFunc(w.Frames, next.Frames[:last], sameFrame) || next.Step != w.Step || !slices.Equal(impl.WindowSteps(w), impl.WindowSteps(next)) {
			t.Fatalf("%s\nbecame\n%s", drawn(w), drawn(next))
		}
	}
	if put < 100 {
		t.Error(put)
	}
}

func TestPromise32LimitsOfFrames(t *testing.T) {
	w := opened(t, "http://a.com/")
	for len(w.Frames) < 8 {
		w = framed(t, w, 0, "f", "http://a.com/")
	}
	u := urlOf(t, "http://a.com/")
	refused(t, "FrameMax", w, impl.GoMany)(impl.WindowFrame(w, 0, "f", u))
	away := went(t, w, 0, "http://b.com/")
	refused(t, "FrameMax, though they are away", away, impl.GoMany)(impl.WindowFrame(away, 0, "f", u))
	deep := grown(t)
	refused(t, "DeepMax", deep, impl.GoMany)(impl.WindowFrame(deep, 2, "f", u))
	framed(t, framed(t, deep, 1, "f", "http://a.com/"), 3, "f", "http://a.com/")
	for _, name := range []string{"", "a", "z", "azazazaz"} {
		if w := framed(t, opened(t, "http://a.com/"), 0, name, "about:blank"); w.Frames[1].Name != name {
			t.Error(name)
		}
	}
	w = opened(t, "http://a.com/")
	for _, name := range []string{"azazazaza", "A", "a1", "a-b", " ", "a ", "\xc3\xa9", "_top", strings.Repeat("a", 1000)} {
		refused(t, name, w, impl.GoBad)(impl.WindowFrame(w, 0, name, u))
	}
	for b := range 256 {
		if _, code := impl.WindowFrame(w, 0, string([]byte{byte(b)}), u); (code == impl.GoFine) != (b >= 'a' && b <= 'z') {
			t.Errorf("byte %d: %d", b, code)
		}
	}
}

func TestPromise32LimitsOfNumbers(t *testing.T) {
	u := urlOf(t, "http://a.com/")
	for next := 9997; next <= 9999; next++ {
		for _, change := range []func(w *impl.Window){
			func(w *impl.Window) { w.NextDoc = next },
			func(w *impl.Window) { w.NextKey = next },
			func(w *impl.Window) { w.NextDoc, w.NextKey = next, next },
		} {
			w := grown(t)
			change(&w)
			if next == 9999 {
				refused(t, "9999", w, impl.GoMany)(impl.WindowFrame(w, 0, "f", u))
				continue
			}
			more := framed(t, w, 0, "f", "http://a.com/")
			if more.NextDoc != w.NextDoc+1 || more.NextKey != w.NextKey+1 {
				t.Error(drawn(more))
			}
		}
	}
}

// Of several codes the first one is told.
func TestPromise32CodesInOrder(t *testing.T) {
	w := grown(t)
	for len(w.Frames) < 8 {
		w = framed(t, w, 0, "f", "http://a.com/")
	}
	w.NextDoc = 9999
	u := urlOf(t, "http://a.com/")
	for _, frame := range []int{-1, 8, 0, math.MinInt, math.MaxInt} {
		refused(t, "no address", w, impl.GoBad)(impl.WindowFrame(w, frame, "f", impl.Url{}))
		refused(t, "no name", w, impl.GoBad)(impl.WindowFrame(w, frame, "F", u))
	}
	for _, frame := range []int{-1, 8, math.MinInt, math.MaxInt} {
		refused(t, "no frame", w, impl.GoNone)(impl.WindowFrame(w, frame, "f", u))
	}
	start := moved(t, w, -3)
	for frame := 1; frame < 8; frame++ {
		refused(t, "not there", start, impl.GoNone)(impl.WindowFrame(start, frame, "f", u))
	}
	refused(t, "too many", w, impl.GoMany)(impl.WindowFrame(w, 0, "f", u))
}

func TestPromise42EntriesOfOnesOwnOrigin(t *testing.T) {
	w := opened(t, "http://b.com/")
	for _, text := range []string{"http://a.com/1", "http://a.com/2", "https://a.com/", "http://a.com/3"} {
		w = went(t, w, 0, text)
	}
	w = framed(t, w, 0, "f", "http://a.com/4")
	for by, want := range [][]int{{5}, {4}, {2, 3}, {2, 3}, {1}} {
		got, at := impl.WindowNear(moved(t, w, -by), 0)
		if !slices.Equal(keys(got), want) || at != slices.Index(want, 5-by) {
			t.Errorf("%d back: %v %d, not %v", by, keys(got), at, want)
		}
	}
	if got, at := impl.WindowNear(w, 1); !slices.Equal(keys(got), []int{6}) || at != 0 {
		t.Error(got, at)
	}
	m := &maker{state: 42}
	for range 300 {
		w := anyShape(t, m)
		for frame := -1; frame <= len(w.Frames); frame++ {
			got, at := impl.WindowNear(w, frame)
			now, ok := impl.WindowNow(w, frame)
			if !ok {
				if len(got) != 0 || at != -1 {
					t.Fatal(frame, got, at)
				}
				continue
			}
			want, wantAt := impl.HistNear(w.Frames[frame].Hist, w.Step)
			if !sameEntries(got, want) || at != wantAt || !sameEntry(got[at], now) {
				t.Fatalf("%d: %v %d of %s", frame, got, at, drawn(w))
			}
			for i, e := range got {
				if i != at && !impl.OriginSame(e.Url, now.Url) {
					t.Fatalf("%d: %v", frame, got)
				}
			}
		}
	}
}

func TestPromise43WhereANameLeads(t *testing.T) {
	w := opened(t, "http://a.com/")
	for _, c := range []struct {
		over int
		name string
	}{{0, "a"}, {0, "b"}, {1, "x"}, {1, "b"}, {2, "x"}, {2, "a"}, {2, "y"}} {
		w = framed(t, w, c.over, c.name, "http://a.com/")
	}
	w.Frames[0].Name = "top"
	for _, c := range []struct {
		from int
		name string
		want int
	}{
		{0, "top", 0}, {0, "a", 1}, {0, "b", 2}, {0, "x", 3}, {0, "y", 7}, {0, "z", -1}, {0, "", -1},
		{1, "a", 1}, {1, "x", 3}, {1, "b", 4}, {1, "y", 7}, {1, "top", 0}, {1, "z", -1},
		{2, "b", 2}, {2, "x", 5}, {2, "a", 6}, {2, "y", 7}, {2, "top", 0},
		{3, "x", 3}, {3, "b", 4}, {3, "a", 1}, {3, "y", 7}, {3, "top", 0}, {3, "", -1},
		{4, "b", 4}, {5, "a", 6}, {6, "x", 5}, {7, "x", 5}, {7, "b", 2}, {7, "top", 0}, {7, "azazazazaz", -1},
		{-1, "a", -1}, {8, "a", -1}, {math.MinInt, "a", -1}, {math.MaxInt, "a", -1},
	} {
		if got := impl.WindowFind(w, c.from, c.name); got != c.want {
			t.Errorf("%q from %d: %d, not %d", c.name, c.from, got, c.want)
		}
	}
	away := went(t, w, 2, "http://b.com/")
	for _, c := range []struct {
		from int
		name string
		want int
	}{{0, "x", 3}, {2, "x", 3}, {2, "a", 1}, {0, "y", -1}, {5, "x", -1}, {7, "y", -1}, {2, "b", 2}} {
		if got := impl.WindowFind(away, c.from, c.name); got != c.want {
			t.Errorf("away: %q from %d: %d, not %d", c.name, c.from, got, c.want)
		}
	}
}

func TestPromise43OrNowhere(t *testing.T) {
	m := &maker{state: 43}
	found, none := 0, 0
	for range 400 {
		w := anyShape(t, m)
		name := m.pick([]string{"", "a", "b", "c", "side", "main"})
		for from := -1; from <= len(w.Frames); from++ {
			got := impl.WindowFind(w, from, name)
			if got != findTold(w, from, name) {
				t.Fatalf("%q from %d: %d of %s", name, from, got, drawn(w))
			}
			here := slices.Contains(impl.WindowLive(w), from)
			some := slices.ContainsFunc(impl.WindowLive(w), func(place int) bool { return w.Frames[place].Name == name })
			if (got != -1) != (here && some && name != "") {
				t.Fatalf("%q from %d: %d of %s", name, from, got, drawn(w))
			}
			if got == -1 {
				none++
				continue
			}
			found++
			if w.Frames[got].Name != name || !slices.Contains(impl.WindowLive(w), got) || w.Frames[from].Name == name && got != from {
				t.Fatalf("%q from %d: %d of %s", name, from, got, drawn(w))
			}
		}
	}
	if found < 100 || none < 100 {
		t.Error(found, none)
	}
}

func TestPromise63WhoAsksNoMore(t *testing.T) {
	w := grown(t)
	for frame := range w.Frames {
		asks := asking(t, w, frame, true)
		if !asks.Frames[frame].Asks || sameWindow(asks, w) || !sameWindow(asking(t, asks, frame, true), asks) {
			t.Error(drawn(asks))
		}
		if !sameWindow(asking(t, asks, frame, false), w) || !sameWindow(asking(t, w, frame, false), w) {
			t.Error(frame)
		}
		u := urlOf(t, "http://z.com/")
		refused(t, "asks", asks, impl.GoRefuse)(impl.WindowGo(asks, frame, u, false))
		if _, code := impl.WindowGo(asking(t, asks, frame, false), frame, u, false); code != impl.GoFine {
			t.Error(frame, code)
		}
	}
	start := moved(t, w, -3)
	for _, frame := range []int{-1, 4, math.MinInt, math.MaxInt} {
		refused(t, "no frame", w, impl.GoNone)(impl.WindowAsk(w, frame, true))
	}
	for frame := 1; frame < 4; frame++ {
		refused(t, "not there", start, impl.GoNone)(impl.WindowAsk(start, frame, true))
	}
	w.NextDoc, w.NextKey = 9999, 9999
	asking(t, w, 0, true)
	m := &maker{state: 63}
	for range 100 {
		w := played(t, m, m.below(25))
		frame := anyPlace(m, w)
		if next, code := impl.WindowAsk(w, frame, true); code == impl.GoFine && !sameWindow(asking(t, next, frame, w.Frames[frame].Asks), w) {
			t.Fatal(drawn(w))
		}
	}
}

// spoilWindow writes over all of an answer, spare room included.
func spoilWindow(w impl.Window) {
	frames := w.Frames[:cap(w.Frames)]
	for i := range frames {
		spoil(frames[i].Hist)
		frames[i] = impl.Frame{Within: -5}
	}
}

func TestWindowsAreNewMemory(t *testing.T) {
	w := grown(t)
	u := urlOf(t, "http://a.com/p/q")
	room := append(u.Path, "behind", "the end")
	u.Path = room[:2]
	var shared []impl.Entry
	for i := range w.Frames {
		from := len(shared)
		shared = append(slices.Grow(shared, 40), w.Frames[i].Hist...)
		w.Frames[i].Hist = shared[from:]
	}
	w.Frames = append(w.Frames, impl.Frame{Name: "behind"})[:4]
	moves := map[string]move{"by a code": {what: toGo, frame: 9, u: u}, "by no step": {what: toBy, by: 0}, "back": {what: toBy, by: -2}, "key": {what: toKey, by: 7}}
	for what := range moveKinds {
		moves[fmt.Sprint("move ", what)] = move{what: what, u: u, by: -1}
		moves[fmt.Sprint("move in the place ", what)] = move{what: what, u: u, by: -1, replace: true}
		moves[fmt.Sprint("move of another frame ", what)] = move{what: what, frame: 1, u: u, by: -1}
	}
	was, wasRoom, wasU := copiedWindow(w), slices.Clone(room), u
	for what, v := range moves {
		for _, at := range []int{3, 1} {
			w.Step, was.Step = at, at
			want, wantCode := v.do(w)
			want = copiedWindow(want)
			again, _ := v.do(w)
			for i := range again.Frames {
				for j := range again.Frames[i].Hist {
					spoil(again.Frames[i].Hist[j : j+1 : j+1])
					if !sameEntries(again.Frames[i].Hist[j+1:], want.Frames[i].Hist[j+1:]) || !slices.EqualFunc(again.Frames[i+1:], want.Frames[i+1:], sameFrame) {
						t.Fatalf("%s: parts of the answer share memory", what)
					}
				}
			}
			other, _ := v.do(w)
			spoilWindow(other)
			if got, code := v.do(w); !sameWindow(w, was) || !slices.Equal(room, wasRoom) || !sameUrl(u, wasU) || code != wantCode || !sameWindow(got, want) {
				t.Fatalf("%s: an argument is changed", what)
			}
			if f := w.Frames[:5][4]; f.Name != "behind" {
				t.Fatalf("%s: written behind the end", what)
			}
		}
	}
	near, _ := impl.WindowNear(w, 0)
	spoil(near)
	e, _ := impl.WindowNow(w, 0)
	spoil([]impl.Entry{e})
	first, _ := impl.WindowNew(u)
	spoilWindow(first)
	if !sameWindow(w, was) || !slices.Equal(room, wasRoom) {
		t.Error("what is told shares memory with a window")
	}
}
