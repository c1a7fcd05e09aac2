package tests

import (
	"fmt"
	"slices"
	"strings"
	"testing"

	"loop.example/guilloche/impl"
)

// opened is a window with one page.
func opened(t *testing.T, text string) impl.Window {
	t.Helper()
	w, ok := impl.WindowNew(urlOf(t, text))
	if !ok {
		t.Fatalf("%q is not opened", text)
	}
	return w
}

// fine holds that a call has no code, and left a window that is ok.
func fine(t *testing.T, w impl.Window, code int) impl.Window {
	t.Helper()
	if code != impl.GoFine || !impl.WindowOk(w) {
		t.Fatalf("code %d: %s", code, drawn(w))
	}
	return w
}

func framed(t *testing.T, w impl.Window, over int, name string, text string) impl.Window {
	t.Helper()
	next, code := impl.WindowFrame(w, over, name, urlOf(t, text))
	return fine(t, next, code)
}

func went(t *testing.T, w impl.Window, frame int, text string) impl.Window {
	t.Helper()
	next, code := impl.WindowGo(w, frame, urlOf(t, text), false)
	return fine(t, next, code)
}

func replaced(t *testing.T, w impl.Window, frame int, text string) impl.Window {
	t.Helper()
	next, code := impl.WindowGo(w, frame, urlOf(t, text), true)
	return fine(t, next, code)
}

func stated(t *testing.T, w impl.Window, frame int, text string, state string) impl.Window {
	t.Helper()
	next, code := impl.WindowState(w, frame, urlOf(t, text), state, false)
	return fine(t, next, code)
}

func kept(t *testing.T, w impl.Window, frame int, text string, state string) impl.Window {
	t.Helper()
	next, code := impl.WindowState(w, frame, urlOf(t, text), state, true)
	return fine(t, next, code)
}

func moved(t *testing.T, w impl.Window, by int) impl.Window {
	t.Helper()
	next, code := impl.WindowBy(w, by)
	return fine(t, next, code)
}

func keyed(t *testing.T, w impl.Window, frame int, key int) impl.Window {
	t.Helper()
	next, code := impl.WindowKey(w, frame, key)
	return fine(t, next, code)
}

func asking(t *testing.T, w impl.Window, frame int, asks bool) impl.Window {
	t.Helper()
	next, code := impl.WindowAsk(w, frame, asks)
	return fine(t, next, code)
}

// drawn is all of a window as a text: the step and the next numbers; then of each frame what it is within, its name, a mark if it asks, and its entries.
func drawn(w impl.Window) string {
	var out strings.Builder
	fmt.Fprintf(&out, "at %d next %d %d", w.Step, w.NextDoc, w.NextKey)
	for _, f := range w.Frames {
		fmt.Fprintf(&out, "\n%d %s", f.Within, f.Name)
		if f.Asks {
			out.WriteString("!")
		}
		for _, e := range f.Hist {
			fmt.Fprintf(&out, " [%d %s d%d k%d %s]", e.Step, impl.UrlPut(e.Url), e.Doc, e.Key, e.State)
		}
	}
	return out.String()
}

// draws holds a window against what is drawn of it, line by line.
func draws(t *testing.T, w impl.Window, lines ...string) {
	t.Helper()
	if want := strings.Join(lines, "\n"); drawn(w) != want {
		t.Errorf("got\n%s\nnot\n%s", drawn(w), want)
	}
}

// refused holds that a call has a code, and leaves the window as it is.
func refused(t *testing.T, what string, was impl.Window, want int) func(w impl.Window, code int) {
	t.Helper()
	return func(w impl.Window, code int) {
		t.Helper()
		if code != want || !sameWindow(w, was) {
			t.Errorf("%s: code %d, not %d, of\n%s\nnot\n%s", what, code, want, drawn(w), drawn(was))
		}
	}
}

func sameFrame(a impl.Frame, b impl.Frame) bool {
	return a.Within == b.Within && a.Name == b.Name && a.Asks == b.Asks && sameEntries(a.Hist, b.Hist)
}

func sameWindow(a impl.Window, b impl.Window) bool {
	return a.Step == b.Step && a.NextDoc == b.NextDoc && a.NextKey == b.NextKey && slices.EqualFunc(a.Frames, b.Frames, sameFrame)
}

// copiedWindow shares nothing with another one.
func copiedWindow(w impl.Window) impl.Window {
	w.Frames = slices.Clone(w.Frames)
	for i := range w.Frames {
		w.Frames[i].Hist = copied(w.Frames[i].Hist)
	}
	return w
}

// seen is what is there, frame by frame, whatever its place.
func seen(w impl.Window) []string {
	out := []string{}
	for _, place := range impl.WindowLive(w) {
		e, _ := impl.WindowNow(w, place)
		f := w.Frames[place]
		out = append(out, fmt.Sprintf("%d %s [%d %s d%d k%d %q]", f.Within, f.Name, e.Step, impl.UrlPut(e.Url), e.Doc, e.Key, e.State))
	}
	return out
}

// pages is the documents of all frames that are there, in order.
func pages(w impl.Window) []int {
	out := []int{}
	for _, place := range impl.WindowLive(w) {
		e, _ := impl.WindowNow(w, place)
		out = append(out, e.Doc)
	}
	return out
}

// entryCount is the number of all entries.
func entryCount(w impl.Window) int {
	n := 0
	for _, f := range w.Frames {
		n += len(f.Hist)
	}
	return n
}

// move is one call that changes a window.
type move struct {
	what    int
	frame   int
	u       impl.Url
	text    string
	by      int
	replace bool
}

const (
	toFrame = iota
	toGo
	toState
	toBy
	toKey
	toAsk
	moveKinds
)

func (v move) do(w impl.Window) (impl.Window, int) {
	switch v.what {
	case toFrame:
		return impl.WindowFrame(w, v.frame, v.text, v.u)
	case toGo:
		return impl.WindowGo(w, v.frame, v.u, v.replace)
	case toState:
		return impl.WindowState(w, v.frame, v.u, v.text, v.replace)
	case toBy:
		return impl.WindowBy(w, v.by)
	case toKey:
		return impl.WindowKey(w, v.frame, v.by)
	}
	return impl.WindowAsk(w, v.frame, v.replace)
}

func (v move) told(w impl.Window) (impl.Window, int) {
	switch v.what {
	case toFrame:
		return frameTold(w, v.frame, v.text, v.u)
	case toGo:
		return goTold(w, v.frame, v.u, v.replace)
	case toState:
		return stateTold(w, v.frame, v.u, v.text, v.replace)
	case toBy:
		return byTold(w, v.by)
	case toKey:
		return keyTold(w, v.frame, v.by)
	}
	return askTold(w, v.frame, v.replace)
}

// anyVisit is an address that is ok, one of few, so that many are the same, or of one origin.
func anyVisit(m *maker) impl.Url {
	u, _ := impl.UrlGet(m.pick([]string{"http://a.com/", "http://a.com/", "http://a.com/#f", "http://a.com/#g", "http://a.com/x", "http://a.com/x?q#", "http://b.com/", "http://b.com/#f", "https://a.com/", "about:blank", "about:blank#x"}))
	return u
}

// anyPlace is the place of a frame, most often of one that is there.
func anyPlace(m *maker, w impl.Window) int {
	if m.below(16) == 0 {
		return m.below(len(w.Frames)+3) - 1
	}
	live := liveTold(w)
	return live[m.below(len(live))]
}

// anyMove is a call that often has no code.
func anyMove(m *maker, w impl.Window) move {
	v := move{what: m.below(moveKinds), frame: anyPlace(m, w), u: anyVisit(m), by: m.below(7) - 3, replace: m.below(4) == 0}
	if m.below(30) == 0 {
		v.u = wrongUrls()[m.below(8)]
	}
	switch v.what {
	case toFrame:
		v.text = m.pick([]string{"", "a", "b", "c", "side", "main", "longname", "waytoolong", "A", "a1"})
	case toState:
		v.text = m.text(21, "s\x00\xff")
		if now, ok := impl.WindowNow(w, v.frame); ok && m.below(2) == 0 {
			v.u = now.Url
		}
	case toKey:
		v.by = m.below(w.NextKey + 2)
	}
	return v
}

// played is a window behind some calls, all of them held against what is told.
func played(t *testing.T, m *maker, moves int) impl.Window {
	t.Helper()
	w, ok := impl.WindowNew(anyVisit(m))
	if !ok {
		t.Fatal("not opened")
	}
	for range moves {
		w, _ = holds(t, w, anyMove(m, w))
	}
	return w
}

// holds does a call, and holds it against what is told.
func holds(t *testing.T, w impl.Window, v move) (impl.Window, int) {
	t.Helper()
	was := copiedWindow(w)
	next, code := v.do(w)
	want, wantCode := v.told(was)
	if code != wantCode || !sameWindow(next, want) || !sameWindow(w, was) {
		t.Fatalf("%+v: code %d, not %d; of\n%s\ncame\n%s\nnot\n%s", v, code, wantCode, drawn(w), drawn(next), drawn(want))
	}
	if !impl.WindowOk(next) {
		t.Fatalf("%+v spoils\n%s\nto\n%s", v, drawn(w), drawn(next))
	}
	return next, code
}

// anyWindow is a window behind some calls, none of its pages asking.
func anyWindow(t *testing.T, m *maker) impl.Window {
	t.Helper()
	w := played(t, m, m.below(25))
	for i := range w.Frames {
		w.Frames[i].Asks = false
	}
	return w
}

// anyShape is a window that is ok, but that no calls need lead to: frames in another order, at another step, that ask without being there, with entries taken away, or of other pages.
func anyShape(t *testing.T, m *maker) impl.Window {
	t.Helper()
	for range 1000 {
		w := played(t, m, 5+m.below(25))
		for range 1 + m.below(4) {
			bend(m, &w)
		}
		if ok := impl.WindowOk(w); ok != okTold(w) {
			t.Fatalf("ok %v: %s", ok, drawn(w))
		} else if ok {
			return w
		}
	}
	t.Fatal("no window is ok")
	return impl.Window{}
}

// bend changes something in a window, which may not be ok then.
func bend(m *maker, w *impl.Window) {
	one, two := m.below(len(w.Frames)), m.below(len(w.Frames))
	hist := w.Frames[one].Hist
	if len(hist) == 0 {
		return
	}
	at := m.below(len(hist))
	switch m.below(9) {
	case 0:
		w.Frames[one], w.Frames[two] = w.Frames[two], w.Frames[one]
	case 1:
		w.Step = m.below(w.Step + 3)
	case 2:
		w.Frames[one].Asks = true
	case 3:
		w.Frames[one].Hist = append(copied(hist[:at]), hist[at+1:]...)
	case 4:
		hist[at].Doc = hist[m.below(len(hist))].Doc
	case 5:
		w.NextDoc += m.below(3) - 1
		w.NextKey += m.below(3) - 1
	case 6:
		w.Frames[one].Within = m.below(w.NextDoc)
	case 7:
		hist[at].Step += m.below(3) - 1
	case 8:
		hist[at].Doc = 1 + m.below(w.NextDoc)
	}
}
