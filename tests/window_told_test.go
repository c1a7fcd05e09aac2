package tests

import (
	"slices"
	"strings"

	"loop.example/guilloche/impl"
)

// What follows tells of windows as the document does, frame by frame and entry by entry, to hold the program against it.

// entryTold is the entry of a frame that counts at a step; false if there is none.
func entryTold(f impl.Frame, step int) (impl.Entry, bool) {
	at, ok := impl.Entry{}, false
	for _, e := range f.Hist {
		if e.Step <= step {
			at, ok = e, true
		}
	}
	return at, ok
}

// overTold is the place of the frame that has entries of a document; -1 if none has.
func overTold(w impl.Window, doc int) int {
	return slices.IndexFunc(w.Frames, func(f impl.Frame) bool {
		return slices.ContainsFunc(f.Hist, func(e impl.Entry) bool { return e.Doc == doc })
	})
}

func thereTold(w impl.Window, place int, step int) bool {
	if place < 0 || place >= len(w.Frames) {
		return false
	}
	f := w.Frames[place]
	if _, ok := entryTold(f, step); !ok || place == 0 {
		return ok
	}
	over := overTold(w, f.Within)
	e, ok := entryTold(w.Frames[over], step)
	return ok && e.Doc == f.Within && thereTold(w, over, step)
}

func liveTold(w impl.Window) []int {
	var live []int
	for place := range w.Frames {
		if thereTold(w, place, w.Step) {
			live = append(live, place)
		}
	}
	return live
}

func stepsTold(w impl.Window) []int {
	var steps []int
	for step := -70; step <= 70; step++ {
		if slices.ContainsFunc(w.Frames, func(f impl.Frame) bool {
			return slices.ContainsFunc(f.Hist, func(e impl.Entry) bool { return e.Step == step })
		}) {
			steps = append(steps, step)
		}
	}
	return steps
}

// deepTold goes no further than five, as frames may be within each other.
func deepTold(w impl.Window, place int) int {
	deep := 1
	for place > 0 && deep < 5 {
		place = overTold(w, w.Frames[place].Within)
		deep++
	}
	return deep
}

func nameTold(name string) bool {
	return len(name) <= 8 && strings.Trim(name, "abcdefghijklmnopqrstuvwxyz") == ""
}

// numbersTold says whether documents and keys are as told: of one frame alone, and below the next ones.
func numbersTold(w impl.Window) bool {
	for i, f := range w.Frames {
		for j, g := range w.Frames {
			for _, e := range f.Hist {
				for _, o := range g.Hist {
					if i != j && (e.Doc == o.Doc || e.Key == o.Key) {
						return false
					}
				}
				if e.Doc < 1 || e.Key < 1 || e.Doc >= w.NextDoc || e.Key >= w.NextKey {
					return false
				}
			}
		}
	}
	return true
}

func okTold(w impl.Window) bool {
	if len(w.Frames) < 1 || len(w.Frames) > 8 || w.NextDoc < 2 || w.NextDoc > 9999 || w.NextKey < 2 || w.NextKey > 9999 {
		return false
	}
	for place, f := range w.Frames {
		if len(f.Hist) == 0 || !impl.HistOk(f.Hist) || !nameTold(f.Name) {
			return false
		}
		if place == 0 && f.Within != 0 || place > 0 && (f.Within == 0 || overTold(w, f.Within) < 0) {
			return false
		}
	}
	for place := range w.Frames {
		if deepTold(w, place) > 3 {
			return false
		}
	}
	return numbersTold(w) && w.Frames[0].Hist[0].Step == 0 && w.Step >= 0 && w.Step <= 60 && slices.Contains(stepsTold(w), w.Step)
}

// stayTold takes away frames one by one, until each has entries, and is within a page that some frame has.
func stayTold(w *impl.Window) {
	for {
		gone := slices.IndexFunc(w.Frames, func(f impl.Frame) bool {
			return len(f.Hist) == 0 || f.Within != 0 && overTold(*w, f.Within) < 0
		})
		if gone < 0 {
			return
		}
		w.Frames = append(slices.Clone(w.Frames[:gone]), w.Frames[gone+1:]...)
	}
}

// settleTold is what follows a change: who asks, who asks still, and the step.
func settleTold(w impl.Window, next impl.Window) (impl.Window, int) {
	for place, f := range w.Frames {
		e, _ := entryTold(f, w.Step)
		if !f.Asks || !thereTold(w, place, w.Step) {
			continue
		}
		stays := slices.ContainsFunc(liveTold(next), func(then int) bool {
			o, _ := entryTold(next.Frames[then], next.Step)
			return o.Doc == e.Doc
		})
		if !stays {
			return w, impl.GoRefuse
		}
	}
	for i := range next.Frames {
		then, ok := entryTold(next.Frames[i], next.Step)
		had := slices.ContainsFunc(w.Frames, func(f impl.Frame) bool {
			e, paged := entryTold(f, w.Step)
			return paged && e.Doc == then.Doc
		})
		if !ok || !had {
			next.Frames[i].Asks = false
		}
	}
	for !slices.Contains(stepsTold(next), next.Step) {
		next.Step--
	}
	return next, impl.GoFine
}

// putIntoTold puts an entry that has its document, address and text.
func putIntoTold(w impl.Window, frame int, e impl.Entry, nextDoc int, inPlace bool) (impl.Window, int) {
	next := copiedWindow(w)
	next.NextDoc = nextDoc
	if inPlace {
		now, _ := entryTold(w.Frames[frame], w.Step)
		e.Step, e.Key = now.Step, now.Key
		at := slices.IndexFunc(next.Frames[frame].Hist, func(o impl.Entry) bool { return o.Key == e.Key })
		next.Frames[frame].Hist[at] = e
		stayTold(&next)
		return settleTold(w, next)
	}
	for i := range next.Frames {
		next.Frames[i].Hist = slices.DeleteFunc(next.Frames[i].Hist, func(o impl.Entry) bool { return o.Step > w.Step })
	}
	stayTold(&next)
	mine := slices.IndexFunc(next.Frames, func(f impl.Frame) bool { return f.Hist[0].Key == w.Frames[frame].Hist[0].Key })
	if len(next.Frames[mine].Hist) == 20 || w.Step == 60 {
		return w, impl.GoMany
	}
	next.Step = w.Step + 1
	next.NextKey = w.NextKey + 1
	e.Step, e.Key = next.Step, w.NextKey
	next.Frames[mine].Hist = append(next.Frames[mine].Hist, e)
	stayTold(&next)
	return settleTold(w, next)
}

func frameTold(w impl.Window, over int, name string, u impl.Url) (impl.Window, int) {
	switch {
	case !impl.UrlOk(u) || !nameTold(name):
		return w, impl.GoBad
	case !thereTold(w, over, w.Step):
		return w, impl.GoNone
	case w.NextDoc == 9999 || w.NextKey == 9999 || len(w.Frames) == 8 || deepTold(w, over) == 3:
		return w, impl.GoMany
	}
	next := copiedWindow(w)
	now, _ := entryTold(w.Frames[over], w.Step)
	e := impl.Entry{Step: w.Step, Url: u, Doc: w.NextDoc, Key: w.NextKey}
	next.Frames = append(next.Frames, impl.Frame{Within: now.Doc, Name: name, Hist: []impl.Entry{e}})
	next.NextDoc, next.NextKey = w.NextDoc+1, w.NextKey+1
	return next, impl.GoFine
}

func goTold(w impl.Window, frame int, u impl.Url, replace bool) (impl.Window, int) {
	switch {
	case !impl.UrlOk(u):
		return w, impl.GoBad
	case !thereTold(w, frame, w.Step):
		return w, impl.GoNone
	case w.NextDoc == 9999 || w.NextKey == 9999:
		return w, impl.GoMany
	}
	now, _ := entryTold(w.Frames[frame], w.Step)
	e, nextDoc := impl.Entry{Url: u, Doc: w.NextDoc}, w.NextDoc+1
	if u.HasFrag && impl.UrlSame(now.Url, u) {
		e.Doc, nextDoc = now.Doc, w.NextDoc
	}
	inPlace := replace || sameUrl(u, now.Url) || now.Url.Host.Kind == impl.HostNone
	return putIntoTold(w, frame, e, nextDoc, inPlace)
}

func stateTold(w impl.Window, frame int, u impl.Url, state string, replace bool) (impl.Window, int) {
	switch {
	case !impl.UrlOk(u) || len(state) > 20:
		return w, impl.GoBad
	case !thereTold(w, frame, w.Step):
		return w, impl.GoNone
	case w.NextKey == 9999:
		return w, impl.GoMany
	}
	now, _ := entryTold(w.Frames[frame], w.Step)
	if !impl.OriginSame(now.Url, u) {
		return w, impl.GoOther
	}
	return putIntoTold(w, frame, impl.Entry{Url: u, Doc: now.Doc, State: state}, w.NextDoc, replace)
}

func toStepTold(w impl.Window, step int) (impl.Window, int) {
	next := copiedWindow(w)
	next.Step = step
	return settleTold(w, next)
}

func byTold(w impl.Window, by int) (impl.Window, int) {
	steps := stepsTold(w)
	for at, step := range steps {
		for to := range steps {
			if step == w.Step && to-at == by {
				return toStepTold(w, steps[to])
			}
		}
	}
	return w, impl.GoEnd
}

func keyTold(w impl.Window, frame int, key int) (impl.Window, int) {
	if !thereTold(w, frame, w.Step) {
		return w, impl.GoNone
	}
	near, at := impl.HistNear(w.Frames[frame].Hist, w.Step)
	for i, e := range near {
		if e.Key == key && i == at {
			return toStepTold(w, w.Step)
		}
		if e.Key == key {
			return toStepTold(w, e.Step)
		}
	}
	return w, impl.GoEnd
}

func askTold(w impl.Window, frame int, asks bool) (impl.Window, int) {
	if !thereTold(w, frame, w.Step) {
		return w, impl.GoNone
	}
	next := copiedWindow(w)
	next.Frames[frame].Asks = asks
	return next, impl.GoFine
}

// withinTold is places of frames that are there, of a frame's page, in order.
func withinTold(w impl.Window, over int) []int {
	var inner []int
	for _, place := range liveTold(w) {
		if place > 0 && overTold(w, w.Frames[place].Within) == over {
			inner = append(inner, place)
		}
	}
	return inner
}

// lookTold is all frames in the order in which they are looked at from a page on: those of it, and then, one by one, what is within.
func lookTold(w impl.Window, over int) []int {
	inner := withinTold(w, over)
	order := slices.Clone(inner)
	for _, place := range inner {
		order = append(order, lookTold(w, place)...)
	}
	return order
}

func findTold(w impl.Window, from int, name string) int {
	if name == "" || !thereTold(w, from, w.Step) {
		return -1
	}
	order := append([]int{from}, lookTold(w, from)...)
	for from != 0 {
		from = overTold(w, w.Frames[from].Within)
		order = append(append(order, from), lookTold(w, from)...)
	}
	for _, place := range order {
		if w.Frames[place].Name == name {
			return place
		}
	}
	return -1
}
