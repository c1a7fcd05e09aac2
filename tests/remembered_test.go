package tests

import (
	"math"
	"slices"
	"strings"
	"testing"

	"loop.example/guilloche/impl"
)

// entry has a step, an address and a key; the document is the key's number.
func entry(t *testing.T, step int, text string, key int) impl.Entry {
	t.Helper()
	return impl.Entry{Step: step, Url: urlOf(t, text), Doc: key, Key: key}
}

// visits is entries at addresses, step by step from 0 on, their keys being 1, 2 ..
func visits(t *testing.T, texts ...string) []impl.Entry {
	t.Helper()
	var list []impl.Entry
	for i, text := range texts {
		list = append(list, entry(t, i, text, i+1))
	}
	return list
}

// spread is entries at 2, 5, 9 and 14, under the keys 7, 3, 11 and 0, all of one origin.
func spread(t *testing.T) []impl.Entry {
	t.Helper()
	return []impl.Entry{entry(t, 2, "http://a.com/", 7), entry(t, 5, "http://a.com/b", 3), entry(t, 9, "http://a.com/c#f", 11), entry(t, 14, "http://a.com/?q", 0)}
}

func sameEntry(a impl.Entry, b impl.Entry) bool {
	return a.Step == b.Step && sameUrl(a.Url, b.Url) && a.Doc == b.Doc && a.Key == b.Key && a.State == b.State
}

func sameEntries(a []impl.Entry, b []impl.Entry) bool {
	return slices.EqualFunc(a, b, sameEntry)
}

// keys is the keys of entries, in order.
func keys(list []impl.Entry) []int {
	out := []int{}
	for _, e := range list {
		out = append(out, e.Key)
	}
	return out
}

// copied is entries that share nothing with others.
func copied(list []impl.Entry) []impl.Entry {
	out := slices.Clone(list)
	for i := range out {
		out[i].Url.Path = slices.Clone(out[i].Url.Path)
	}
	return out
}

// anyEntry is one that is ok, at a step.
func anyEntry(m *maker, step int) impl.Entry {
	return impl.Entry{Step: step, Url: anyNear(m), Doc: m.below(4), Key: m.below(10000), State: m.text(20, allBytes())}
}

// anyHist is entries that are ok, often with neighbours of one origin.
func anyHist(m *maker) []impl.Entry {
	var list []impl.Entry
	for step := m.below(3); step <= 60 && len(list) < 20 && m.below(12) > 0; step += 1 + m.below(4) {
		e := anyEntry(m, step)
		if last := len(list) - 1; last >= 0 && m.below(2) == 0 {
			e.Url = list[last].Url
		}
		if slices.Index(keys(list), e.Key) < 0 && impl.UrlOk(e.Url) {
			list = append(list, e)
		}
	}
	return list
}

// wrongHists is entries that are not ok, each for one reason alone.
func wrongHists(t *testing.T) map[string][]impl.Entry {
	t.Helper()
	lists := map[string][]impl.Entry{}
	wrong := func(why string, change func(list []impl.Entry)) {
		lists[why] = spread(t)
		change(lists[why])
	}
	wrong("a step below 0", func(list []impl.Entry) { list[0].Step = -1 })
	wrong("a step above StepMax", func(list []impl.Entry) { list[3].Step = 61 })
	wrong("a step twice", func(list []impl.Entry) { list[1].Step = 2 })
	wrong("a step twice at the end", func(list []impl.Entry) { list[2].Step = 14 })
	wrong("a step back", func(list []impl.Entry) { list[2].Step = 3 })
	wrong("turned round", func(list []impl.Entry) { slices.Reverse(list) })
	wrong("a document below 0", func(list []impl.Entry) { list[0].Doc = -1 })
	wrong("a document above 9999", func(list []impl.Entry) { list[1].Doc = 10000 })
	wrong("a key below 0", func(list []impl.Entry) { list[2].Key = -1 })
	wrong("a key above 9999", func(list []impl.Entry) { list[3].Key = 10000 })
	wrong("a key twice", func(list []impl.Entry) { list[1].Key = 7 })
	wrong("a key twice, apart", func(list []impl.Entry) { list[3].Key = 7 })
	wrong("a text that is too long", func(list []impl.Entry) { list[3].State = strings.Repeat("s", 21) })
	for i, u := range wrongUrls() {
		wrong("an address "+string(rune('a'+i)), func(list []impl.Entry) { list[i%4].Url = u })
	}
	many := []impl.Entry{}
	for i := range 21 {
		many = append(many, entry(t, i, "http://a.com/", i))
	}
	lists["too many"] = many
	return lists
}

func TestLimitsOfWhatIsRemembered(t *testing.T) {
	if impl.StepMax != 60 || impl.EntryMax != 20 || impl.StateMax != 20 {
		t.Error(impl.StepMax, impl.EntryMax, impl.StateMax)
	}
}

func TestPromise24WhatIsOk(t *testing.T) {
	for _, list := range [][]impl.Entry{nil, {}, spread(t), visits(t, "about:blank", "about:blank", "http://x/")} {
		if !impl.HistOk(list) {
			t.Errorf("%v", list)
		}
	}
	alike := spread(t)
	for i := range alike {
		alike[i].Doc, alike[i].State, alike[i].Url = 5, "same", alike[0].Url
	}
	if !impl.HistOk(alike) {
		t.Error("documents, texts and addresses may be there twice")
	}
	for why, list := range wrongHists(t) {
		if impl.HistOk(list) {
			t.Error(why)
		}
	}
	m := &maker{state: 240}
	for range 300 {
		if list := anyHist(m); !impl.HistOk(list) {
			t.Fatal(list)
		}
	}
}

func TestPromise24EachLimit(t *testing.T) {
	for what, c := range map[string]struct {
		last   int
		change func(e *impl.Entry, n int)
	}{
		"step":     {60, func(e *impl.Entry, n int) { e.Step = n }},
		"document": {9999, func(e *impl.Entry, n int) { e.Doc = n }},
		"key":      {9999, func(e *impl.Entry, n int) { e.Key = n }},
		"text":     {20, func(e *impl.Entry, n int) { e.State = strings.Repeat("\xff", min(max(n, 0), 1000)) }},
	} {
		ok := func(n int) bool {
			e := entry(t, 0, "http://a.com/", 1)
			c.change(&e, n)
			return impl.HistOk([]impl.Entry{e})
		}
		if !ok(0) || !ok(1) || !ok(c.last) || ok(c.last+1) || ok(math.MaxInt) {
			t.Error(what, ok(0), ok(1), ok(c.last), ok(c.last+1), ok(math.MaxInt))
		}
		if what != "text" && (ok(-1) || ok(math.MinInt)) {
			t.Error(what, "below 0")
		}
	}
	var list []impl.Entry
	for i := range impl.EntryMax + 1 {
		if !impl.HistOk(list) {
			t.Errorf("%d entries", len(list))
		}
		list = append(list, entry(t, 3*i, "http://a.com/", i))
	}
	if !impl.HistOk(list[:20]) || impl.HistOk(list) {
		t.Error("EntryMax")
	}
}

func TestPromise24TheLastThatIsNotBehind(t *testing.T) {
	list := spread(t)
	for step, want := range map[int]int{math.MinInt: -1, -1: -1, 0: -1, 1: -1, 2: 0, 3: 0, 4: 0, 5: 1, 8: 1, 9: 2, 13: 2, 14: 3, 15: 3, 60: 3, 61: 3, math.MaxInt: 3} {
		if got := impl.HistAt(list, step); got != want {
			t.Errorf("step %d: %d, not %d", step, got, want)
		}
	}
	if impl.HistAt(nil, 5) != -1 || impl.HistAt([]impl.Entry{}, 60) != -1 {
		t.Error("of none")
	}
	edges := []impl.Entry{entry(t, 0, "http://a.com/", 0), entry(t, 60, "http://a.com/", 1)}
	if impl.HistAt(edges, -1) != -1 || impl.HistAt(edges, 0) != 0 || impl.HistAt(edges, 59) != 0 || impl.HistAt(edges, 60) != 1 {
		t.Error("at the edges")
	}
	m := &maker{state: 24}
	for range 200 {
		list := anyHist(m)
		for step := -2; step <= 62; step += 1 + m.below(6) {
			at := impl.HistAt(list, step)
			if at < -1 || at >= len(list) || at >= 0 && list[at].Step > step || at+1 < len(list) && list[at+1].Step <= step {
				t.Fatalf("step %d: %d of %v", step, at, list)
			}
		}
	}
}

func TestPromises24To28OfWhatIsNotOk(t *testing.T) {
	fine := entry(t, 20, "http://a.com/", 99)
	for why, list := range wrongHists(t) {
		for _, step := range []int{-1, 0, 2, 5, 20, 61} {
			if at := impl.HistAt(list, step); at != -1 {
				t.Errorf("%s: at %d", why, at)
			}
			if cut := impl.HistCut(list, step); len(cut) != 0 {
				t.Errorf("%s: cut %v", why, cut)
			}
			if near, at := impl.HistNear(list, step); len(near) != 0 || at != -1 {
				t.Errorf("%s: near %v %d", why, near, at)
			}
		}
		for _, e := range list {
			if at := impl.HistKey(list, e.Key); at != -1 {
				t.Errorf("%s: key %d at %d", why, e.Key, at)
			}
		}
		for _, e := range []impl.Entry{fine, {}, list[0], entry(t, 2, "http://a.com/", 98), entry(t, 5, "http://a.com/", 98)} {
			if with, ok := impl.HistPut(list, e); ok || len(with) != 0 {
				t.Errorf("%s: put %v %v", why, with, ok)
			}
		}
	}
}

func TestPromise25WhatIsCut(t *testing.T) {
	list := spread(t)
	for step, want := range map[int]int{math.MinInt: 0, -1: 0, 1: 0, 2: 1, 4: 1, 5: 2, 8: 2, 9: 3, 13: 3, 14: 4, 60: 4, 61: 4, math.MaxInt: 4} {
		if cut := impl.HistCut(list, step); !sameEntries(cut, list[:want]) {
			t.Errorf("step %d: %v", step, cut)
		}
	}
	if len(impl.HistCut(nil, 3)) != 0 {
		t.Error("of none")
	}
	m := &maker{state: 25}
	for range 200 {
		list, step := anyHist(m), m.below(64)-2
		cut := impl.HistCut(list, step)
		if !impl.HistOk(cut) || len(cut) > len(list) || !sameEntries(cut, list[:len(cut)]) {
			t.Fatalf("step %d: %v of %v", step, cut, list)
		}
		if len(cut) < len(list) && list[len(cut)].Step <= step {
			t.Fatalf("step %d: %v of %v is too little", step, cut, list)
		}
		for _, earlier := range []int{-1, step - 7, step - 1, step} {
			if earlier <= step && impl.HistAt(cut, earlier) != impl.HistAt(list, earlier) {
				t.Fatalf("step %d, cut at %d: %v", earlier, step, list)
			}
		}
		if impl.HistAt(cut, 60) != len(cut)-1 || len(cut) > 0 && cut[len(cut)-1].Step > step {
			t.Fatalf("step %d: behind %v", step, cut)
		}
		if !sameEntries(impl.HistCut(cut, step), cut) {
			t.Fatalf("step %d, again: %v", step, cut)
		}
	}
}

// puts holds what HistPut answers of an entry.
func puts(t *testing.T, list []impl.Entry, e impl.Entry, want []impl.Entry, wantOk bool) {
	t.Helper()
	got, ok := impl.HistPut(list, e)
	if ok != wantOk || !sameEntries(got, want) {
		t.Errorf("%+v into %v: %v %v, not %v", e, list, got, ok, want)
	}
}

func TestPromise26WhereAnEntryIsPut(t *testing.T) {
	list := spread(t)
	for place, step := range []int{2, 5, 9, 14} {
		e := impl.Entry{Step: step, Url: urlOf(t, "https://b.com/z#g"), Doc: 9999, Key: 500, State: "kept"}
		want := spread(t)
		want[place] = e
		puts(t, list, e, want, true)
		e.Key = list[place].Key
		want[place] = e
		puts(t, list, e, want, true)
		e.Key = list[(place+1)%4].Key
		puts(t, list, e, list, false)
	}
	for _, step := range []int{15, 16, 60} {
		e := entry(t, step, "about:blank", 9999)
		puts(t, list, e, append(spread(t), e), true)
	}
	for _, step := range []int{math.MinInt, -1, 61, math.MaxInt} {
		puts(t, list, entry(t, step, "http://a.com/", 500), list, false)
		puts(t, nil, entry(t, step, "http://a.com/", 500), nil, false)
	}
	for _, step := range []int{0, 1, 33, 60} {
		e := entry(t, step, "http://a.com/", 0)
		puts(t, nil, e, []impl.Entry{e}, true)
		puts(t, []impl.Entry{}, e, []impl.Entry{e}, true)
	}
}

func TestPromise26WhatIsNotPut(t *testing.T) {
	list := spread(t)
	for _, step := range []int{2, 9, 14, 15, 60} {
		for why, change := range map[string]func(e *impl.Entry){
			"a document below 0":    func(e *impl.Entry) { e.Doc = -1 },
			"a document above 9999": func(e *impl.Entry) { e.Doc = 10000 },
			"a key below 0":         func(e *impl.Entry) { e.Key = -1 },
			"a key above 9999":      func(e *impl.Entry) { e.Key = 10000 },
			"a key of another one":  func(e *impl.Entry) { e.Key = 3 },
			"a text too long":       func(e *impl.Entry) { e.State = strings.Repeat("s", 21) },
			"no address":            func(e *impl.Entry) { e.Url = impl.Url{} },
			"a wrong address":       func(e *impl.Entry) { e.Url.Port = 80 },
		} {
			e := entry(t, step, "http://a.com/", 500)
			change(&e)
			if got, ok := impl.HistPut(list, e); ok || !sameEntries(got, list) {
				t.Errorf("%s at %d: %v %v", why, step, got, ok)
			}
		}
	}
	var full []impl.Entry
	for i := range impl.EntryMax {
		e := entry(t, 2*i, "http://a.com/", i)
		puts(t, full, e, append(copied(full), e), true)
		full = append(full, e)
	}
	puts(t, full, entry(t, 39, "http://a.com/", 500), full, false)
	puts(t, full, entry(t, 60, "http://a.com/", 500), full, false)
	e := entry(t, 38, "http://b.com/", 500)
	puts(t, full, e, append(copied(full[:19]), e), true)
}

func TestPromise26WhatIsPutCounts(t *testing.T) {
	m := &maker{state: 26}
	put, stayed := 0, 0
	for range 600 {
		list := anyHist(m)
		e := anyEntry(m, m.below(64)-1)
		if len(list) > 0 && m.below(2) == 0 {
			e.Step = list[m.below(len(list))].Step
		}
		if len(list) > 0 && m.below(6) == 0 {
			e.Key = list[m.below(len(list))].Key
		}
		with, ok := impl.HistPut(list, e)
		if ok != putTold(list, e) {
			t.Fatalf("%+v into %v: %v", e, list, ok)
		}
		if !ok {
			stayed++
			if !sameEntries(with, list) {
				t.Fatalf("%+v into %v: %v", e, list, with)
			}
			continue
		}
		put++
		at := impl.HistAt(with, e.Step)
		if !impl.HistOk(with) || at < 0 || !sameEntry(with[at], e) || impl.HistKey(with, e.Key) != at {
			t.Fatalf("%+v is not in %v", e, with)
		}
		ofItsStep := func(x impl.Entry) bool { return x.Step == e.Step }
		if !sameEntries(slices.DeleteFunc(copied(with), ofItsStep), slices.DeleteFunc(copied(list), ofItsStep)) {
			t.Fatalf("%+v into %v: %v", e, list, with)
		}
	}
	if put < 100 || stayed < 100 {
		t.Error(put, stayed)
	}
}

// putTold says whether an entry is put, as the document tells it: all other entries are looked at one by one.
func putTold(list []impl.Entry, e impl.Entry) bool {
	there, ahead := 0, 0
	for _, x := range list {
		switch {
		case x.Step == e.Step:
			there++
		case x.Key == e.Key:
			return false
		case x.Step > e.Step:
			ahead++
		}
	}
	fits := there == 1 || ahead == 0 && len(list) < 20
	return fits && e.Step >= 0 && e.Step <= 60 && impl.UrlOk(e.Url)
}

func TestPromise27TheOnlyOneOfItsKey(t *testing.T) {
	list := spread(t)
	for key, want := range map[int]int{7: 0, 3: 1, 11: 2, 0: 3, 1: -1, 2: -1, 14: -1, -1: -1, 9999: -1, 10000: -1, math.MinInt: -1, math.MaxInt: -1} {
		if got := impl.HistKey(list, key); got != want {
			t.Errorf("key %d: %d, not %d", key, got, want)
		}
	}
	for i := range list {
		list[i].Doc = 1
	}
	if impl.HistKey(list, 1) != -1 || impl.HistKey(nil, 0) != -1 {
		t.Error("a document is no key")
	}
	list[2].Key = 9999
	if impl.HistKey(list, 9999) != 2 || impl.HistKey(list, 11) != -1 {
		t.Error("the last key")
	}
	m := &maker{state: 27}
	for range 200 {
		list := anyHist(m)
		for i, e := range list {
			if at := impl.HistKey(list, e.Key); at != i {
				t.Fatalf("key %d: %d of %v", e.Key, at, list)
			}
		}
		if key := m.below(10002) - 1; impl.HistKey(list, key) != slices.Index(keys(list), key) {
			t.Fatalf("key %d of %v", key, list)
		}
	}
}

// near holds the keys of what HistNear answers, and the place.
func near(t *testing.T, list []impl.Entry, step int, at int, want ...int) {
	t.Helper()
	got, place := impl.HistNear(list, step)
	if !slices.Equal(keys(got), want) || place != at {
		t.Errorf("step %d: %v %d, not %v %d", step, keys(got), place, want, at)
	}
}

func TestPromise28SideBySide(t *testing.T) {
	list := spread(t)
	near(t, list, 1, -1)
	near(t, list, -1, -1)
	for step, at := range map[int]int{2: 0, 4: 0, 5: 1, 9: 2, 13: 2, 14: 3, 60: 3, 99: 3} {
		near(t, list, step, at, 7, 3, 11, 0)
	}
	near(t, nil, 0, -1)
	near(t, list[:1], 2, 0, 7)
	m := &maker{state: 28}
	several, less := 0, 0
	for range 300 {
		list, step := anyHist(m), m.below(64)-1
		got, place := impl.HistNear(list, step)
		at := impl.HistAt(list, step)
		if at < 0 {
			if len(got) != 0 || place != -1 {
				t.Fatalf("step %d: %v %d", step, got, place)
			}
			continue
		}
		if place < 0 || place >= len(got) || !sameEntry(got[place], list[at]) {
			t.Fatalf("step %d: %v %d", step, got, place)
		}
		first, end := at-place, at-place+len(got)
		if first < 0 || end > len(list) || !sameEntries(got, list[first:end]) {
			t.Fatalf("step %d: %v is not side by side in %v", step, got, list)
		}
		for i := first; i < end; i++ {
			if i != at && !impl.OriginSame(list[i].Url, list[at].Url) {
				t.Fatalf("step %d: %v", step, got)
			}
		}
		if first > 0 && impl.OriginSame(list[first-1].Url, list[at].Url) || end < len(list) && impl.OriginSame(list[end].Url, list[at].Url) {
			t.Fatalf("step %d: %v is not all of %v", step, got, list)
		}
		if len(got) > 1 {
			several++
		}
		if len(got) < len(list) {
			less++
		}
	}
	if several < 100 || less < 100 {
		t.Error(several, less)
	}
}

func TestPromise28AllThatThereMayBe(t *testing.T) {
	var list []impl.Entry
	var all []int
	for i := range impl.EntryMax {
		list = append(list, entry(t, i+41, "https://u@a.com:444/"+strings.Repeat("a", i), i))
		all = append(all, i)
	}
	for i := range list {
		near(t, list, i+41, i, all...)
	}
	near(t, list, 40, -1)
	near(t, list, 61, 19, all...)
	list = append(list, entry(t, 61, "https://a.com:444/", 500))
	near(t, list, 50, -1)
}

func TestPromise59WhatIsPutBehindAll(t *testing.T) {
	m := &maker{state: 59}
	with, alone := 0, 0
	for range 400 {
		list := anyHist(m)
		if len(list) == 0 {
			continue
		}
		last := list[len(list)-1]
		e := anyEntry(m, last.Step+1+m.below(3))
		e.Url = last.Url
		more, ok := impl.HistPut(list, e)
		if !ok {
			continue
		}
		want, at := impl.HistNear(list, last.Step)
		want, at = append(want, e), at+1
		if last.Url.Host == (impl.Host{}) {
			want, at = []impl.Entry{e}, 0
			alone++
		} else {
			with++
		}
		got, place := impl.HistNear(more, e.Step)
		if !sameEntries(got, want) || place != at {
			t.Fatalf("%+v behind %v: %v %d", e, list, got, place)
		}
	}
	if with < 100 || alone < 5 {
		t.Error(with, alone)
	}
}

func TestPromise59WithAnOriginAndWithout(t *testing.T) {
	for text, want := range map[string][]int{"http://b.com/": {2, 3, 4}, "about:blank": {4}, "x://b.com/": {4}, "https://1.2:3/?q#f": {2, 3, 4}} {
		list := visits(t, "http://a.com/", text, text)
		more, ok := impl.HistPut(list, entry(t, 3, text, 4))
		if !ok {
			t.Errorf("%q is not put", text)
		}
		near(t, more, 3, len(want)-1, want...)
		near(t, more, 60, len(want)-1, want...)
	}
}

// A step at which nothing stands: what counts is what was ahead of it, and nothing is put there.
func TestWatchAStepBetweenTwoEntries(t *testing.T) {
	list := spread(t)
	for step := range 15 {
		if step == 2 || step == 5 || step == 9 || step == 14 {
			continue
		}
		at := 0
		for at < 4 && list[at].Step < step {
			at++
		}
		if got := impl.HistAt(list, step); got != at-1 {
			t.Errorf("at %d: %d", step, got)
		}
		if got := impl.HistCut(list, step); !sameEntries(got, list[:at]) {
			t.Errorf("cut at %d: %v", step, got)
		}
		puts(t, list, entry(t, step, "http://a.com/", 500), list, false)
		puts(t, list, entry(t, step, "http://a.com/b", 3), list, false)
		got, place := impl.HistNear(list, step)
		if place != at-1 || (place >= 0) != sameEntries(got, list) {
			t.Errorf("near %d: %v %d", step, got, place)
		}
		e := entry(t, step, "http://a.com/", 500)
		puts(t, impl.HistCut(list, step), e, append(copied(list[:at]), e), true)
	}
}

// Who is of another origin ends what is seen, even if one's own goes on behind it.
func TestWatchNeighboursOfAnotherOrigin(t *testing.T) {
	list := visits(t, "http://a.com/1", "http://a.com/2", "http://b.com/", "http://u@a.com:80/3", "http://a.com/4#f", "https://a.com/", "http://a.com/5", "http://a.com:81/", "http://c.a.com/", "http://c.a.com/?q")
	for step, want := range [][]int{{1, 2}, {1, 2}, {3}, {4, 5}, {4, 5}, {6}, {7}, {8}, {9, 10}, {9, 10}} {
		near(t, list, step, slices.Index(want, step+1), want...)
	}
	blank := visits(t, "http://a.com/", "about:blank", "http://a.com/", "about:blank", "about:blank", "http://a.com/", "x://a.com/", "x://a.com/")
	for step, want := range [][]int{{1}, {2}, {3}, {4}, {5}, {6}, {7}, {8}} {
		near(t, blank, step, 0, want...)
	}
	ends := []impl.Entry{entry(t, 0, "http://b.com/", 1), entry(t, 10, "http://a.com/", 2), entry(t, 20, "http://a.com/", 3), entry(t, 30, "http://b.com/", 4)}
	near(t, ends, 9, 0, 1)
	near(t, ends, 10, 0, 2, 3)
	near(t, ends, 19, 0, 2, 3)
	near(t, ends, 29, 1, 2, 3)
	near(t, ends, 30, 0, 4)
}

// spoil writes over all of an answer, spare room included.
func spoil(list []impl.Entry) {
	list = list[:cap(list)]
	for i := range list {
		path := list[i].Url.Path
		path = path[:cap(path)]
		for j := range path {
			path[j] = "spoilt"
		}
		list[i] = impl.Entry{Step: -5}
	}
}

func TestWhatIsRememberedIsNewMemory(t *testing.T) {
	room := append(spread(t), entry(t, 50, "http://a.com/behind", 77), entry(t, 51, "http://a.com/the/end", 78))
	shared := append(urlOf(t, "http://a.com/p/q").Path, "behind", "the end")
	for i := range room {
		room[i].Url.Path = shared[:2]
	}
	list, kept, keptPath := room[:4], copied(room), slices.Clone(shared)
	e := entry(t, 20, "http://a.com/p/q", 99)
	e.Url.Path = shared[:2]
	between, there := e, e
	between.Step, there.Step = 6, 9
	for what, call := range map[string]func() []impl.Entry{
		"cut":           func() []impl.Entry { return impl.HistCut(list, 9) },
		"cut at none":   func() []impl.Entry { return impl.HistCut(list, 0) },
		"cut at all":    func() []impl.Entry { return impl.HistCut(list, 60) },
		"put":           func() []impl.Entry { with, _ := impl.HistPut(list, e); return with },
		"put in place":  func() []impl.Entry { with, _ := impl.HistPut(list, there); return with },
		"put into none": func() []impl.Entry { with, _ := impl.HistPut(list[:0], e); return with },
		"not put":       func() []impl.Entry { with, _ := impl.HistPut(list, between); return with },
		"near":          func() []impl.Entry { some, _ := impl.HistNear(list, 9); return some },
	} {
		want := copied(call())
		for i, answer := 0, call(); i < len(answer); i++ {
			spoil(answer[i : i+1 : i+1])
			if !sameEntries(answer[i+1:], want[i+1:]) {
				t.Errorf("%s: entries share their paths", what)
			}
		}
		spoil(call())
		if !sameEntries(room, kept) || !slices.Equal(shared, keptPath) || !sameEntries(call(), want) {
			t.Fatalf("%s: an argument is changed", what)
		}
	}
}
