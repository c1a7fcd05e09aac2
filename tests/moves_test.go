package tests

import (
	"math"
	"slices"
	"strings"
	"testing"

	"loop.example/guilloche/impl"
)

// placeOf is the place of the frame that is there with a page; -1 if none is.
func placeOf(w impl.Window, doc int) int {
	for _, place := range impl.WindowLive(w) {
		if e, _ := impl.WindowNow(w, place); e.Doc == doc {
			return place
		}
	}
	return -1
}

// inOf says whether a frame is within another one, at whatever depth.
func inOf(w impl.Window, place int, over int) bool {
	for place > 0 {
		place = overTold(w, w.Frames[place].Within)
		if place == over {
			return true
		}
	}
	return false
}

// climbed is a window whose top is at its last entry, one more a step.
func climbed(t *testing.T, entries int) impl.Window {
	t.Helper()
	w := opened(t, "http://a.com/")
	for len(w.Frames[0].Hist) < entries {
		w = went(t, w, 0, []string{"http://a.com/", "http://a.com/b"}[len(w.Frames[0].Hist)%2])
	}
	return w
}

func TestPromise33BehindAllOthers(t *testing.T) {
	w := grown(t)
	draws(t, went(t, w, 3, "http://d.com/"), "at 4 next 8 9",
		"0  [0 http://a.com/ d1 k1 ] [1 http://a.com/b d2 k2 ] [3 http://a.com/b#f d2 k7 ]",
		"2 side [1 http://a.com/s d3 k3 ]",
		"3 in [1 http://b.com/ d4 k4 ] [2 http://b.com/x d5 k5 ]",
		"2 main [2 http://c.com/ d6 k6 ] [4 http://d.com/ d7 k8 ]")
	draws(t, went(t, moved(t, w, -3), 0, "http://d.com/"), "at 1 next 8 9",
		"0  [0 http://a.com/ d1 k1 ] [1 http://d.com/ d7 k8 ]")
	draws(t, went(t, moved(t, w, -1), 0, "http://a.com/b"), "at 2 next 8 8",
		"0  [0 http://a.com/ d1 k1 ] [1 http://a.com/b d7 k2 ] [3 http://a.com/b#f d2 k7 ]",
		"2 side [1 http://a.com/s d3 k3 ]",
		"3 in [1 http://b.com/ d4 k4 ] [2 http://b.com/x d5 k5 ]",
		"2 main [2 http://c.com/ d6 k6 ]")
	draws(t, went(t, opened(t, "http://a.com/#f"), 0, "http://a.com/"), "at 1 next 3 3",
		"0  [0 http://a.com/#f d1 k1 ] [1 http://a.com/ d2 k2 ]")
	draws(t, went(t, opened(t, "http://a.com/"), 0, "about:blank"), "at 1 next 3 3",
		"0  [0 http://a.com/ d1 k1 ] [1 about:blank d2 k2 ]")
}

func TestPromise33InThePlace(t *testing.T) {
	w := grown(t)
	draws(t, replaced(t, w, 1, "http://d.com/"), "at 3 next 8 8",
		"0  [0 http://a.com/ d1 k1 ] [1 http://a.com/b d2 k2 ] [3 http://a.com/b#f d2 k7 ]",
		"2 side [1 http://d.com/ d7 k3 ]",
		"2 main [2 http://c.com/ d6 k6 ]")
	draws(t, went(t, w, 3, "http://c.com/"), "at 3 next 8 8",
		"0  [0 http://a.com/ d1 k1 ] [1 http://a.com/b d2 k2 ] [3 http://a.com/b#f d2 k7 ]",
		"2 side [1 http://a.com/s d3 k3 ]",
		"3 in [1 http://b.com/ d4 k4 ] [2 http://b.com/x d5 k5 ]",
		"2 main [2 http://c.com/ d7 k6 ]")
	draws(t, replaced(t, moved(t, w, -3), 0, "http://d.com/"), "at 0 next 8 8",
		"0  [0 http://d.com/ d7 k1 ] [1 http://a.com/b d2 k2 ] [3 http://a.com/b#f d2 k7 ]",
		"2 side [1 http://a.com/s d3 k3 ]",
		"3 in [1 http://b.com/ d4 k4 ] [2 http://b.com/x d5 k5 ]",
		"2 main [2 http://c.com/ d6 k6 ]")
	if same := went(t, w, 0, "http://a.com/b#f"); !sameWindow(same, w) {
		t.Error(drawn(same))
	}
	draws(t, went(t, kept(t, opened(t, "http://a.com/#f"), 0, "http://a.com/#f", "s"), 0, "http://a.com/#f"), "at 0 next 2 2",
		"0  [0 http://a.com/#f d1 k1 ]")
	draws(t, replaced(t, opened(t, "http://a.com/"), 0, "http://a.com/#f"), "at 0 next 2 2",
		"0  [0 http://a.com/#f d1 k1 ]")
}

// From what has no host one goes in the place, from all else to it behind.
func TestPromise33FromWhatHasNoHost(t *testing.T) {
	blank := opened(t, "about:blank")
	draws(t, went(t, blank, 0, "http://a.com/"), "at 0 next 3 2", "0  [0 http://a.com/ d2 k1 ]")
	draws(t, went(t, blank, 0, "data:x"), "at 0 next 3 2", "0  [0 data:x d2 k1 ]")
	draws(t, went(t, blank, 0, "about:blank"), "at 0 next 3 2", "0  [0 about:blank d2 k1 ]")
	draws(t, went(t, blank, 0, "about:blank#x"), "at 0 next 2 2", "0  [0 about:blank#x d1 k1 ]")
	w := framed(t, went(t, opened(t, "http://a.com/"), 0, "http://b.com/"), 0, "f", "about:blank")
	draws(t, went(t, w, 1, "http://c.com/"), "at 1 next 5 4",
		"0  [0 http://a.com/ d1 k1 ] [1 http://b.com/ d2 k2 ]",
		"2 f [1 http://c.com/ d4 k3 ]")
}

func TestPromise33AnythingIsAsTold(t *testing.T) {
	m := &maker{state: 33}
	codes := map[int]int{}
	for range 120 {
		w := played(t, m, 0)
		for range 40 {
			v := anyMove(m, w)
			next, code := holds(t, w, v)
			codes[code]++
			w = next
		}
	}
	for code := impl.GoFine; code <= impl.GoRefuse; code++ {
		if codes[code] < 20 {
			t.Errorf("code %d only %d times", code, codes[code])
		}
	}
	for range 250 {
		w := anyShape(t, m)
		for range 10 {
			holds(t, w, anyMove(m, w))
		}
	}
}

func TestPromise33WhoGoesIsThere(t *testing.T) {
	m := &maker{state: 330}
	behind, inPlace, stayed := 0, 0, 0
	for range 500 {
		w := played(t, m, m.below(25))
		frame, u, replace := anyPlace(m, w), anyVisit(m), m.below(3) == 0
		now, _ := impl.WindowNow(w, frame)
		next, code := impl.WindowGo(w, frame, u, replace)
		if code != impl.GoFine {
			stayed++
			if !sameWindow(next, w) {
				t.Fatalf("code %d: %s\nbecame\n%s", code, drawn(w), drawn(next))
			}
			continue
		}
		doc := w.NextDoc
		if u.HasFrag && impl.UrlSame(u, now.Url) {
			doc = now.Doc
		}
		e, _ := impl.WindowNow(next, placeOf(next, doc))
		if !sameUrl(e.Url, u) || e.Doc != doc || e.State != "" {
			t.Fatalf("%+v is not at %+v: %s", e, u, drawn(next))
		}
		if next.NextKey == w.NextKey {
			inPlace++
			if e.Step != now.Step || e.Key != now.Key {
				t.Fatalf("%+v is not in the place of %+v", e, now)
			}
			continue
		}
		behind++
		steps := impl.WindowSteps(next)
		if replace || e.Key != w.NextKey || e.Step != w.Step+1 || next.Step != e.Step || steps[len(steps)-1] != e.Step {
			t.Fatalf("%+v is not behind %s", e, drawn(w))
		}
	}
	if behind < 100 || inPlace < 100 || stayed < 20 {
		t.Error(behind, inPlace, stayed)
	}
}

func TestPromise33LimitsOfStepsAndEntries(t *testing.T) {
	u := urlOf(t, "http://z.com/")
	full := climbed(t, 19)
	full = went(t, full, 0, "http://a.com/last")
	refused(t, "EntryMax", full, impl.GoMany)(impl.WindowGo(full, 0, u, false))
	refused(t, "EntryMax", full, impl.GoMany)(impl.WindowState(full, 0, urlOf(t, "http://a.com/z"), "", false))
	replaced(t, full, 0, "http://z.com/")
	kept(t, full, 0, "http://a.com/z", "s")
	went(t, full, 0, "http://a.com/last")
	if w := went(t, moved(t, full, -1), 0, "http://z.com/"); len(w.Frames[0].Hist) != 20 || w.Step != 19 {
		t.Error("EntryMax counts what is left then")
	}
	if w := went(t, framed(t, full, 0, "f", "http://a.com/"), 1, "http://z.com/"); w.Step != 20 {
		t.Error("EntryMax is of each frame")
	}
	for last := 58; last <= 60; last++ {
		w := opened(t, "http://a.com/")
		w.Frames[0].Hist = append(w.Frames[0].Hist, impl.Entry{Step: last, Url: urlOf(t, "http://a.com/b"), Doc: 1, Key: 2})
		w.Step, w.NextKey = last, 3
		if last == 60 {
			refused(t, "StepMax", w, impl.GoMany)(impl.WindowGo(w, 0, u, false))
			refused(t, "StepMax", w, impl.GoMany)(impl.WindowState(w, 0, urlOf(t, "http://a.com/z"), "", false))
			replaced(t, w, 0, "http://z.com/")
			kept(t, w, 0, "http://a.com/z", "s")
		} else if next := went(t, w, 0, "http://z.com/"); next.Step != last+1 {
			t.Error(drawn(next))
		}
		if next := went(t, moved(t, w, -1), 0, "http://z.com/"); next.Step != 1 {
			t.Error(drawn(next))
		}
	}
}

func TestPromise33LimitsOfNumbers(t *testing.T) {
	u, own := urlOf(t, "http://z.com/"), urlOf(t, "http://a.com/b#g")
	for next := 9998; next <= 9999; next++ {
		for _, change := range []func(w *impl.Window){
			func(w *impl.Window) { w.NextDoc = next },
			func(w *impl.Window) { w.NextKey = next },
		} {
			w := grown(t)
			change(&w)
			for _, replace := range []bool{false, true} {
				for _, to := range []impl.Url{u, own} {
					after, code := impl.WindowGo(w, 0, to, replace)
					if next == 9999 {
						refused(t, "9999", w, impl.GoMany)(after, code)
					} else {
						fine(t, after, code)
					}
				}
				after, code := impl.WindowState(w, 0, own, "s", replace)
				if w.NextKey == 9999 {
					refused(t, "9999", w, impl.GoMany)(after, code)
				} else {
					fine(t, after, code)
				}
			}
			moved(t, w, -2)
			keyed(t, w, 0, 1)
		}
	}
	w := grown(t)
	w.NextDoc, w.NextKey = 9998, 9998
	after := went(t, w, 0, "http://z.com/")
	if after.NextDoc != 9999 || after.NextKey != 9999 || !slices.Equal(seen(moved(t, after, -1)), seen(w)) {
		t.Error(drawn(after))
	}
}

// Of several codes the first one is told.
func TestPromise33CodesInOrder(t *testing.T) {
	w := asking(t, climbed(t, 20), 0, true)
	u, bad := urlOf(t, "http://z.com/"), wrongUrls()
	long := strings.Repeat("s", 21)
	for _, frame := range []int{math.MinInt, -1, 1, 8, math.MaxInt} {
		for _, replace := range []bool{false, true} {
			for _, none := range bad {
				refused(t, "no address", w, impl.GoBad)(impl.WindowGo(w, frame, none, replace))
				refused(t, "no address", w, impl.GoBad)(impl.WindowState(w, frame, none, "", replace))
			}
			refused(t, "a text", w, impl.GoBad)(impl.WindowState(w, frame, u, long, replace))
			refused(t, "no frame", w, impl.GoNone)(impl.WindowGo(w, frame, u, replace))
			refused(t, "no frame", w, impl.GoNone)(impl.WindowState(w, frame, u, "", replace))
		}
		refused(t, "no frame", w, impl.GoNone)(impl.WindowKey(w, frame, 99))
	}
	refused(t, "too many, ahead of asking", w, impl.GoMany)(impl.WindowGo(w, 0, u, false))
	refused(t, "asking", w, impl.GoRefuse)(impl.WindowGo(w, 0, u, true))
	refused(t, "another origin", w, impl.GoOther)(impl.WindowState(w, 0, u, "", true))
	w.NextKey = 9999
	refused(t, "9999, ahead of another origin", w, impl.GoMany)(impl.WindowState(w, 0, u, "", true))
	start := moved(t, grown(t), -3)
	for frame := 1; frame < 4; frame++ {
		refused(t, "not there", start, impl.GoNone)(impl.WindowGo(start, frame, u, false))
		refused(t, "not there", start, impl.GoNone)(impl.WindowState(start, frame, u, "", false))
		refused(t, "not there", start, impl.GoNone)(impl.WindowKey(start, frame, 3))
	}
}

func TestPromise34BackIsWhereOneWas(t *testing.T) {
	m := &maker{state: 34}
	behind := 0
	for range 400 {
		w := played(t, m, m.below(25))
		next, code := impl.WindowGo(w, anyPlace(m, w), anyVisit(m), false)
		if code != impl.GoFine || next.NextKey == w.NextKey {
			continue
		}
		behind++
		back := moved(t, next, -1)
		if !slices.Equal(seen(back), seen(w)) {
			t.Fatalf("%s\nwas\n%s", drawn(back), drawn(w))
		}
		if forth := moved(t, back, 1); !sameWindow(forth, next) {
			t.Fatalf("%s\nwas\n%s", drawn(forth), drawn(next))
		}
	}
	if behind < 100 {
		t.Error(behind)
	}
}

func TestPromise35ThePageStays(t *testing.T) {
	w := moved(t, grown(t), -1)
	for _, text := range []string{"http://a.com/b#", "http://a.com/b#f", "http://a.com/b#other"} {
		if next := went(t, w, 0, text); !slices.Equal(pages(next), pages(w)) || next.NextDoc != w.NextDoc {
			t.Errorf("%s: %s", text, drawn(next))
		}
	}
	for _, text := range []string{"http://a.com/c#f", "http://a.com/b?#f", "https://a.com/b#f", "http://a.com/#f"} {
		if next := went(t, w, 0, text); !slices.Equal(pages(next), []int{w.NextDoc}) {
			t.Errorf("%s: %s", text, drawn(next))
		}
	}
	m := &maker{state: 35}
	for range 200 {
		w := played(t, m, m.below(25))
		frame := anyPlace(m, w)
		now, ok := impl.WindowNow(w, frame)
		u := now.Url
		u.HasFrag, u.Frag = true, m.text(3, "abc")
		next, code := impl.WindowGo(w, frame, u, m.below(3) == 0)
		if !ok || code == impl.GoMany {
			continue
		}
		if code != impl.GoFine || !slices.Equal(pages(next), pages(w)) || len(impl.WindowLive(next)) != len(impl.WindowLive(w)) {
			t.Fatalf("code %d: %s\nbecame\n%s", code, drawn(w), drawn(next))
		}
	}
}

func TestPromise36NothingBesideChanges(t *testing.T) {
	m := &maker{state: 36}
	beside := 0
	for range 400 {
		w := played(t, m, 5+m.below(25))
		frame := anyPlace(m, w)
		next, code := impl.WindowGo(w, frame, anyVisit(m), m.below(3) == 0)
		if code != impl.GoFine {
			continue
		}
		for _, place := range impl.WindowLive(w) {
			if place == frame || inOf(w, place, frame) {
				continue
			}
			was, _ := impl.WindowNow(w, place)
			is, ok := impl.WindowNow(next, placeOf(next, was.Doc))
			if !ok || !sameEntry(is, was) {
				t.Fatalf("frame %d: %s\nbecame\n%s", place, drawn(w), drawn(next))
			}
			beside++
		}
	}
	if beside < 200 {
		t.Error(beside)
	}
}

func TestPromise37ATextIsKept(t *testing.T) {
	w := grown(t)
	draws(t, stated(t, moved(t, w, -2), 1, "http://u@a.com/t?q#f", "one \x00\n\xff"), "at 2 next 7 9",
		"0  [0 http://a.com/ d1 k1 ] [1 http://a.com/b d2 k2 ]",
		"2 side [1 http://a.com/s d3 k3 ] [2 http://u@a.com/t?q#f d3 k8 one \x00\n\xff]",
		"3 in [1 http://b.com/ d4 k4 ]")
	draws(t, kept(t, moved(t, w, -2), 1, "http://a.com/t", "two"), "at 1 next 7 8",
		"0  [0 http://a.com/ d1 k1 ] [1 http://a.com/b d2 k2 ] [3 http://a.com/b#f d2 k7 ]",
		"2 side [1 http://a.com/t d3 k3 two]",
		"3 in [1 http://b.com/ d4 k4 ] [2 http://b.com/x d5 k5 ]",
		"2 main [2 http://c.com/ d6 k6 ]")
	for n := 19; n <= 21; n++ {
		next, code := impl.WindowState(w, 0, w.Frames[0].Hist[0].Url, strings.Repeat("\xff", n), false)
		if n > 20 {
			refused(t, "StateMax", w, impl.GoBad)(next, code)
		} else if e, _ := impl.WindowNow(fine(t, next, code), 0); len(e.State) != n {
			t.Error(n, e)
		}
	}
	if next := stated(t, w, 3, "http://c.com/", ""); next.Step != 4 {
		t.Error("the very address is put behind, too")
	}
	for _, text := range []string{"https://a.com/b", "http://a.com:81/b", "http://x.a.com/b", "http://a.com./b", "about:blank"} {
		for _, replace := range []bool{false, true} {
			refused(t, text, w, impl.GoOther)(impl.WindowState(w, 0, urlOf(t, text), "s", replace))
		}
	}
	blank := opened(t, "about:blank")
	refused(t, "what has no origin", blank, impl.GoOther)(impl.WindowState(blank, 0, urlOf(t, "about:blank"), "s", true))
}

func TestPromise37InTheSamePage(t *testing.T) {
	m := &maker{state: 37}
	done, other := 0, 0
	for range 400 {
		w := played(t, m, m.below(25))
		frame, u, state := anyPlace(m, w), anyVisit(m), m.text(20, allBytes())
		now, ok := impl.WindowNow(w, frame)
		next, code := impl.WindowState(w, frame, u, state, m.below(3) == 0)
		if !ok || code == impl.GoMany {
			continue
		}
		if (code == impl.GoOther) == impl.OriginSame(now.Url, u) {
			t.Fatalf("code %d from %+v to %+v", code, now.Url, u)
		}
		if code == impl.GoOther {
			other++
			continue
		}
		done++
		e, _ := impl.WindowNow(next, placeOf(next, now.Doc))
		if code != impl.GoFine || !sameUrl(e.Url, u) || e.State != state || !slices.Equal(pages(next), pages(w)) {
			t.Fatalf("code %d: %s\nbecame\n%s", code, drawn(w), drawn(next))
		}
	}
	if done < 50 || other < 50 {
		t.Error(done, other)
	}
}

func TestPromise38SoFarBack(t *testing.T) {
	w := grown(t)
	for by := -3; by <= 0; by++ {
		back := moved(t, w, by)
		if back.Step != 3+by || !sameWindow(moved(t, back, -by), w) {
			t.Errorf("%d: %s", by, drawn(back))
		}
		for _, far := range []int{-4 - by, 1 - by, math.MinInt, math.MaxInt} {
			refused(t, "too far", back, impl.GoEnd)(impl.WindowBy(back, far))
		}
	}
	w.Frames[0].Hist[2].Step, w.Step = 60, 60
	if back := moved(t, w, -1); back.Step != 2 || moved(t, back, 1).Step != 60 {
		t.Error("steps at which nothing is do not count")
	}
	m := &maker{state: 38}
	for range 300 {
		w := played(t, m, m.below(30))
		by := m.below(9) - 4
		at := slices.Index(impl.WindowSteps(w), w.Step) + by
		next, code := impl.WindowBy(w, by)
		if (code == impl.GoEnd) == (at >= 0 && at < len(impl.WindowSteps(w))) {
			t.Fatalf("%d: code %d of %s", by, code, drawn(w))
		}
		if code != impl.GoFine {
			continue
		}
		if back := moved(t, next, -by); !sameWindow(back, w) {
			t.Fatalf("%d: %s\nnot\n%s", by, drawn(back), drawn(w))
		}
		next.Step = w.Step
		if !sameWindow(next, w) {
			t.Fatalf("%d: %s\nnot\n%s", by, drawn(next), drawn(w))
		}
	}
}

func TestPromise39BothTogether(t *testing.T) {
	m := &maker{state: 39}
	both := 0
	for range 500 {
		w := anyWindow(t, m)
		steps := impl.WindowSteps(w)
		w.Step = steps[m.below(len(steps))]
		one, two := m.below(5)-2, m.below(5)-2
		next, code := impl.WindowBy(w, one)
		if code != impl.GoFine {
			continue
		}
		then, code := impl.WindowBy(next, two)
		want, wantCode := impl.WindowBy(w, one+two)
		if code != wantCode || code == impl.GoFine && !sameWindow(then, want) {
			t.Fatalf("%d and %d: %d %d of %s", one, two, code, wantCode, drawn(w))
		}
		if code == impl.GoFine && one != 0 && two != 0 {
			both++
		}
	}
	if both < 50 {
		t.Error(both)
	}
}

func TestPromise40WhoGoesToAKey(t *testing.T) {
	w := opened(t, "http://b.com/")
	for _, text := range []string{"http://a.com/1", "http://a.com/2", "http://a.com/3", "http://b.com/"} {
		w = went(t, w, 0, text)
	}
	w = moved(t, w, -1)
	for key, step := range map[int]int{2: 1, 3: 2, 4: 3} {
		if next := keyed(t, w, 0, key); next.Step != step {
			t.Error(key, drawn(next))
		}
	}
	for _, key := range []int{math.MinInt, -1, 0, 1, 5, 6, 7, 9999, math.MaxInt} {
		refused(t, "not near", w, impl.GoEnd)(impl.WindowKey(w, 0, key))
	}
	w = framed(t, w, 0, "f", "http://a.com/4")
	refused(t, "a key of another frame", w, impl.GoEnd)(impl.WindowKey(w, 1, 4))
	w = went(t, w, 1, "http://a.com/5")
	if next := keyed(t, w, 0, 4); !sameWindow(next, w) || next.Step != 4 {
		t.Error("what counts already leaves the step", drawn(next))
	}
	if next := keyed(t, w, 0, 3); next.Step != 2 || len(impl.WindowLive(next)) != 1 {
		t.Error(drawn(next))
	}
	if next := keyed(t, w, 1, 6); next.Step != 3 {
		t.Error(drawn(next))
	}
}

func TestPromise40JustKeysThatAreNear(t *testing.T) {
	m := &maker{state: 40}
	done, asked := 0, 0
	for range 300 {
		w := played(t, m, m.below(25))
		frame := anyPlace(m, w)
		near, _ := impl.WindowNear(w, frame)
		if len(near) == 0 {
			continue
		}
		for key := range w.NextKey + 1 {
			next, code := impl.WindowKey(w, frame, key)
			if (code == impl.GoEnd) == slices.Contains(keys(near), key) {
				t.Fatalf("key %d: code %d of %s", key, code, drawn(w))
			}
			if code == impl.GoRefuse {
				asked++
			}
			if code != impl.GoFine {
				if !sameWindow(next, w) {
					t.Fatal(drawn(next))
				}
				continue
			}
			done++
			hist := next.Frames[frame].Hist
			if hist[impl.HistAt(hist, next.Step)].Key != key {
				t.Fatalf("key %d: %s", key, drawn(next))
			}
		}
	}
	if done < 200 || asked < 5 {
		t.Error(done, asked)
	}
}

func TestPromise41WhoAsksIsNotLeft(t *testing.T) {
	w := asking(t, grown(t), 0, true)
	for _, replace := range []bool{false, true} {
		refused(t, "another host", w, impl.GoRefuse)(impl.WindowGo(w, 0, urlOf(t, "http://z.com/"), replace))
		refused(t, "another page", w, impl.GoRefuse)(impl.WindowGo(w, 0, urlOf(t, "http://a.com/b"), replace))
		next, code := impl.WindowGo(w, 0, urlOf(t, "http://a.com/b#g"), replace)
		if !fine(t, next, code).Frames[0].Asks {
			t.Error("the page asks no more")
		}
	}
	refused(t, "back", w, impl.GoRefuse)(impl.WindowBy(w, -3))
	refused(t, "by a key", w, impl.GoRefuse)(impl.WindowKey(w, 0, 1))
	if back := moved(t, w, -2); !back.Frames[0].Asks || pages(back)[0] != 2 {
		t.Error(drawn(back))
	}
	if next := keyed(t, w, 0, 2); !next.Frames[0].Asks {
		t.Error(drawn(next))
	}
	again := asking(t, opened(t, "http://a.com/"), 0, true)
	refused(t, "the same page anew", again, impl.GoRefuse)(impl.WindowGo(again, 0, urlOf(t, "http://a.com/"), false))
	m := &maker{state: 41}
	for range 200 {
		w := played(t, m, m.below(25))
		w.Frames[0].Asks = true
		now, _ := impl.WindowNow(w, 0)
		if w.Step < 60 && impl.HistAt(w.Frames[0].Hist, w.Step) < 19 {
			refused(t, "another host", w, impl.GoRefuse)(impl.WindowGo(w, 0, urlOf(t, "http://another.com/"), m.below(2) == 0))
		}
		if next, code := impl.WindowBy(w, m.below(7)-3); code == impl.GoFine && (pages(next)[0] != now.Doc || !next.Frames[0].Asks) {
			t.Fatalf("%s\nbecame\n%s", drawn(w), drawn(next))
		}
	}
}

// Who asks without being there is not asked, and asks no more once the frame has another page.
func TestPromise41WhoAsksWithoutBeingThere(t *testing.T) {
	w := opened(t, "http://a.com/")
	w = framed(t, w, 0, "f", "http://a.com/s")
	w = went(t, w, 1, "http://b.com/")
	w = went(t, w, 0, "http://z.com/")
	w.Frames[1].Asks = true
	if next := went(t, w, 0, "http://y.com/"); !next.Frames[1].Asks {
		t.Error("the frame has the same page still", drawn(next))
	}
	if back := moved(t, w, -1); !back.Frames[1].Asks {
		t.Error("the page that comes back is one that the frame had", drawn(back))
	}
	if back := moved(t, w, -2); back.Frames[1].Asks {
		t.Error("the frame has another page", drawn(back))
	}
}

func TestPromise60NoStepMore(t *testing.T) {
	m := &maker{state: 60}
	done := 0
	for range 400 {
		w := anyWindow(t, m)
		frame := anyPlace(m, w)
		if _, ok := impl.WindowNow(w, frame); !ok || len(lookTold(w, frame)) > 0 {
			continue
		}
		next, code := impl.WindowGo(w, frame, anyVisit(m), true)
		if code != impl.GoFine {
			t.Fatalf("code %d of %s", code, drawn(w))
		}
		if next.NextKey != w.NextKey || len(next.Frames[0].Hist) != len(w.Frames[0].Hist) {
			t.Fatalf("%s\nbecame\n%s", drawn(w), drawn(next))
		}
		if len(next.Frames) != len(w.Frames) {
			continue
		}
		done++
		if !slices.Equal(impl.WindowSteps(next), impl.WindowSteps(w)) || entryCount(next) != entryCount(w) || next.Step != w.Step {
			t.Fatalf("%s\nbecame\n%s", drawn(w), drawn(next))
		}
	}
	if done < 150 {
		t.Error(done)
	}
}

// With a page that is replaced its frames are gone, and so are steps that were theirs alone: the window is at the last that is left.
func TestPromise60StepsOfFramesThatAreGone(t *testing.T) {
	w := framed(t, went(t, opened(t, "http://a.com/"), 0, "http://b.com/"), 0, "f", "http://a.com/")
	w = framed(t, went(t, w, 1, "http://c.com/"), 1, "in", "http://a.com/")
	w = went(t, w, 2, "http://d.com/")
	draws(t, replaced(t, w, 0, "http://e.com/"), "at 1 next 8 7",
		"0  [0 http://a.com/ d1 k1 ] [1 http://e.com/ d7 k2 ]")
	draws(t, replaced(t, w, 1, "http://e.com/"), "at 2 next 8 7",
		"0  [0 http://a.com/ d1 k1 ] [1 http://b.com/ d2 k2 ]",
		"2 f [1 http://a.com/ d3 k3 ] [2 http://e.com/ d7 k4 ]")
}

func TestPromise61TwoPagesOn(t *testing.T) {
	m := &maker{state: 61}
	done := 0
	for range 400 {
		w := anyWindow(t, m)
		one, code := impl.WindowGo(w, 0, urlOf(t, "http://one.com/"), false)
		two, then := impl.WindowGo(one, 0, urlOf(t, "http://two.com/"), false)
		if code != impl.GoFine || then != impl.GoFine || one.NextKey == w.NextKey {
			continue
		}
		done++
		if back := moved(t, two, -2); !slices.Equal(seen(back), seen(w)) {
			t.Fatalf("%s\nwas\n%s", drawn(back), drawn(w))
		}
	}
	if done < 100 {
		t.Error(done)
	}
	w := grown(t)
	two := went(t, went(t, w, 1, "http://one.com/"), 3, "http://two.com/")
	if back := moved(t, two, -2); !slices.Equal(seen(back), seen(w)) || slices.Equal(seen(two), seen(w)) {
		t.Error(drawn(back))
	}
}

func TestPromise62AwayAndBackWithThePage(t *testing.T) {
	m := &maker{state: 62}
	done := 0
	for range 300 {
		w := anyWindow(t, m)
		over := anyPlace(m, w)
		with, code := impl.WindowFrame(w, over, "lookhere", anyVisit(m))
		next, then := impl.WindowGo(with, over, urlOf(t, "http://away.com/"), false)
		if code != impl.GoFine || then != impl.GoFine || next.NextKey == with.NextKey {
			continue
		}
		done++
		page := with.NextDoc - 1
		if placeOf(next, page) != -1 || impl.WindowFind(next, 0, "lookhere") != -1 {
			t.Fatalf("it is there in %s", drawn(next))
		}
		back := moved(t, next, -1)
		place := placeOf(back, page)
		if place < 0 || impl.WindowFind(back, 0, "lookhere") != place || !slices.Equal(seen(back), seen(with)) {
			t.Fatalf("%s\nwas\n%s", drawn(back), drawn(with))
		}
	}
	if done < 100 {
		t.Error(done)
	}
}

func TestPromise64ATextIsThereAgain(t *testing.T) {
	m := &maker{state: 64}
	done := 0
	for range 400 {
		w := anyWindow(t, m)
		frame, state := anyPlace(m, w), m.text(20, allBytes())
		now, _ := impl.WindowNow(w, frame)
		u := now.Url
		u.HasQuery, u.Query = true, m.text(3, "abc")
		with, code := impl.WindowState(w, frame, u, state, m.below(3) == 0)
		if code != impl.GoFine {
			continue
		}
		next, code := impl.WindowGo(with, placeOf(with, now.Doc), urlOf(t, "http://away.com/"), false)
		if code != impl.GoFine {
			continue
		}
		done++
		back := moved(t, next, -1)
		if e, ok := impl.WindowNow(back, placeOf(back, now.Doc)); !ok || e.State != state || !sameUrl(e.Url, u) {
			t.Fatalf("%q: %s", state, drawn(back))
		}
	}
	if done < 150 {
		t.Error(done)
	}
}

// A page that comes back has its frames again, and theirs, each where it was; none that was put into another page.
func TestWatchFramesWithinAPageThatComesBack(t *testing.T) {
	w := grown(t)
	away := went(t, w, 0, "http://z.com/")
	away = framed(t, away, 0, "side", "http://z.com/s")
	away = went(t, away, 4, "http://z.com/t")
	if live := impl.WindowLive(away); !slices.Equal(live, []int{0, 4}) || impl.WindowFind(away, 0, "in") != -1 || impl.WindowFind(away, 0, "side") != 4 {
		t.Error(live)
	}
	for by, want := range [][]int{{0, 4}, {0, 4}, {0, 1, 2, 3}, {0, 1, 2, 3}, {0, 1, 2}, {0}} {
		back := moved(t, away, -by)
		if live := impl.WindowLive(back); !slices.Equal(live, want) {
			t.Errorf("%d back: %v, not %v", by, live, want)
		}
		if by >= 2 && !slices.Equal(seen(back), seen(moved(t, w, 2-by))) {
			t.Errorf("%d back: %v", by, seen(back))
		}
	}
	back := moved(t, away, -2)
	if impl.WindowFind(back, 2, "side") != 1 || impl.WindowFind(back, 0, "in") != 2 {
		t.Error("names lead to frames of the page that is there")
	}
	inner := went(t, w, 1, "http://z.com/")
	if live := impl.WindowLive(inner); !slices.Equal(live, []int{0, 1, 3}) {
		t.Error(live)
	}
	outer := went(t, inner, 0, "http://y.com/")
	if one, two := moved(t, outer, -1), moved(t, outer, -2); !slices.Equal(seen(one), seen(inner)) || !slices.Equal(seen(two), seen(w)) {
		t.Error(seen(one), seen(two))
	}
	draws(t, went(t, moved(t, outer, -3), 0, "http://x.com/"), "at 3 next 10 11",
		"0  [0 http://a.com/ d1 k1 ] [1 http://a.com/b d2 k2 ] [3 http://x.com/ d9 k10 ]",
		"2 side [1 http://a.com/s d3 k3 ]",
		"3 in [1 http://b.com/ d4 k4 ] [2 http://b.com/x d5 k5 ]",
		"2 main [2 http://c.com/ d6 k6 ]")
}

// Who goes anew cuts what was ahead in all frames, and takes away those that were put there later; all else stays.
func TestWatchWhatIsCutInFramesThatStay(t *testing.T) {
	w := opened(t, "http://a.com/")
	w = framed(t, w, 0, "one", "http://a.com/1")
	w = framed(t, w, 0, "two", "http://a.com/2")
	w = went(t, w, 1, "http://b.com/1")
	w = went(t, w, 2, "http://b.com/2")
	w = framed(t, w, 1, "in", "http://a.com/i")
	w = went(t, w, 1, "http://c.com/1")
	w = stated(t, w, 0, "http://a.com/s", "s")
	draws(t, w, "at 4 next 8 9",
		"0  [0 http://a.com/ d1 k1 ] [4 http://a.com/s d1 k8 s]",
		"1 one [0 http://a.com/1 d2 k2 ] [1 http://b.com/1 d4 k4 ] [3 http://c.com/1 d7 k7 ]",
		"1 two [0 http://a.com/2 d3 k3 ] [2 http://b.com/2 d5 k5 ]",
		"4 in [2 http://a.com/i d6 k6 ]")
	draws(t, went(t, moved(t, w, -3), 2, "http://d.com/2"), "at 2 next 9 10",
		"0  [0 http://a.com/ d1 k1 ]",
		"1 one [0 http://a.com/1 d2 k2 ] [1 http://b.com/1 d4 k4 ]",
		"1 two [0 http://a.com/2 d3 k3 ] [2 http://d.com/2 d8 k9 ]")
	draws(t, went(t, moved(t, w, -2), 3, "http://d.com/i"), "at 3 next 9 10",
		"0  [0 http://a.com/ d1 k1 ]",
		"1 one [0 http://a.com/1 d2 k2 ] [1 http://b.com/1 d4 k4 ]",
		"1 two [0 http://a.com/2 d3 k3 ] [2 http://b.com/2 d5 k5 ]",
		"4 in [2 http://a.com/i d6 k6 ] [3 http://d.com/i d8 k9 ]")
	draws(t, stated(t, moved(t, w, -4), 1, "http://a.com/t", "t"), "at 1 next 8 10",
		"0  [0 http://a.com/ d1 k1 ]",
		"1 one [0 http://a.com/1 d2 k2 ] [1 http://a.com/t d2 k9 t]",
		"1 two [0 http://a.com/2 d3 k3 ]")
	early := framed(t, moved(t, w, -4), 0, "late", "http://a.com/l")
	draws(t, went(t, early, 4, "http://d.com/l"), "at 1 next 10 11",
		"0  [0 http://a.com/ d1 k1 ]",
		"1 one [0 http://a.com/1 d2 k2 ]",
		"1 two [0 http://a.com/2 d3 k3 ]",
		"1 late [0 http://a.com/l d8 k9 ] [1 http://d.com/l d9 k10 ]")
	if same := replaced(t, moved(t, w, -4), 2, "http://d.com/2"); entryCount(same) != entryCount(w) {
		t.Error("in the place nothing ahead is cut", drawn(same))
	}
}

// A page within another one asks as well: whoever leaves what it is within leaves it.
func TestWatchAPageThatAsksWithinAnotherOne(t *testing.T) {
	u := urlOf(t, "http://z.com/")
	w := asking(t, grown(t), 2, true)
	for frame := range 3 {
		for _, replace := range []bool{false, true} {
			refused(t, "leaves it", w, impl.GoRefuse)(impl.WindowGo(w, frame, u, replace))
		}
	}
	beside := went(t, w, 3, "http://z.com/")
	if !beside.Frames[2].Asks {
		t.Error("who goes beside it does not leave it", drawn(beside))
	}
	refused(t, "back past it", w, impl.GoRefuse)(impl.WindowBy(w, -3))
	refused(t, "back in it", w, impl.GoRefuse)(impl.WindowBy(w, -2))
	refused(t, "a key of the top", w, impl.GoRefuse)(impl.WindowKey(w, 0, 1))
	if back := moved(t, w, -1); !back.Frames[2].Asks {
		t.Error(drawn(back))
	}
	for _, next := range []impl.Window{
		went(t, w, 0, "http://a.com/b#other"),
		stated(t, w, 0, "http://a.com/other", "s"),
		kept(t, w, 1, "http://a.com/other", "s"),
		framed(t, w, 1, "f", "http://a.com/"),
	} {
		if !next.Frames[2].Asks || placeOf(next, 5) != 2 {
			t.Error(drawn(next))
		}
	}
	free := asking(t, w, 2, false)
	left := went(t, free, 0, "http://z.com/")
	refused(t, "who is away cannot ask", left, impl.GoNone)(impl.WindowAsk(left, 2, true))
	w = asking(t, framed(t, left, 0, "f", "http://a.com/"), 4, true)
	refused(t, "forth and back", w, impl.GoRefuse)(impl.WindowBy(w, -1))
	ahead := asking(t, moved(t, asking(t, w, 4, false), -1), 1, true)
	refused(t, "forth", ahead, impl.GoRefuse)(impl.WindowBy(ahead, 1))
	short := went(t, asking(t, framed(t, opened(t, "http://a.com/"), 0, "f", "http://a.com/"), 1, true), 0, "http://a.com/#f")
	refused(t, "beneath another place of the page", short, impl.GoRefuse)(impl.WindowGo(short, 0, u, false))
}

// The document's example of a session, call by call.
func TestTheExampleOfTheDocument(t *testing.T) {
	join := func(w impl.Window, frame int, text string) string {
		now, _ := impl.WindowNow(w, frame)
		u, _ := impl.UrlJoin(now.Url, text)
		return impl.UrlPut(u)
	}
	w := opened(t, "http://A.com:80/a/../b/./c")
	w = went(t, w, 0, join(w, 0, "d?q#f"))
	w = framed(t, w, 0, "side", join(w, 0, "x"))
	w = framed(t, w, 0, "main", join(w, 0, "../y"))
	start := seen(w)
	w = went(t, w, 1, join(w, 1, "#g"))
	w = went(t, w, 2, join(w, 2, "http://b.com/z"))
	if got := seen(w); w.Step != 3 || !slices.Equal(got, []string{`0  [1 http://a.com/b/d?q#f d2 k2 ""]`, `2 side [2 http://a.com/b/x#g d3 k5 ""]`, `2 main [3 http://b.com/z d5 k6 ""]`}) {
		t.Error(w.Step, got)
	}
	w = moved(t, moved(t, w, -1), -1)
	if got := seen(w); w.Step != 1 || !slices.Equal(got, start) || !slices.Equal(got, []string{`0  [1 http://a.com/b/d?q#f d2 k2 ""]`, `2 side [1 http://a.com/b/x d3 k3 ""]`, `2 main [1 http://a.com/y d4 k4 ""]`}) {
		t.Error(w.Step, got)
	}
	if got, at := impl.WindowNear(w, 0); !slices.Equal(keys(got), []int{1, 2}) || at != 1 {
		t.Error(got, at)
	}
	w = stated(t, w, 0, join(w, 0, "/p"), "s")
	refused(t, "nothing is ahead", w, impl.GoEnd)(impl.WindowBy(w, 1))
	if got := seen(w); w.Step != 2 || got[0] != `0  [2 http://a.com/p d2 k7 "s"]` || !slices.Equal(got[1:], start[1:]) {
		t.Error(w.Step, got)
	}
	if at := impl.WindowFind(w, 1, "main"); at != 2 {
		t.Error(at)
	}
	w = asking(t, w, 1, true)
	refused(t, "it asks", w, impl.GoRefuse)(impl.WindowGo(w, 0, urlOf(t, "http://c.com/"), false))
	w = moved(t, went(t, asking(t, w, 1, false), 0, "http://c.com/"), -2)
	if got := seen(w); w.Step != 1 || !slices.Equal(got, start) || !slices.Equal(impl.WindowSteps(w), []int{0, 1, 2, 3}) {
		t.Error(w.Step, got)
	}
}
