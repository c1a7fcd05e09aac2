package tests

import (
	"math"
	"slices"
	"testing"

	"loop.example/guilloche/impl"
)

// putInto holds what JarPut answers.
func putInto(t *testing.T, jar []impl.Cookie, c impl.Cookie, now int, want []impl.Cookie) {
	t.Helper()
	if got := impl.JarPut(jar, c, now); !slices.Equal(got, want) {
		t.Errorf("%+v into %+v at %d: %+v, not %+v", c, jar, now, got, want)
	}
}

func TestPromise71WhichJarsAreOk(t *testing.T) {
	apart := []impl.Cookie{
		plain(),
		changed(func(c *impl.Cookie) { c.Name = "S" }),
		changed(func(c *impl.Cookie) { c.Domain = "b.a.com" }),
		changed(func(c *impl.Cookie) { c.Domain = "a.com." }),
		changed(func(c *impl.Cookie) { c.Alone = true }),
		changed(func(c *impl.Cookie) { c.Path = "/a" }),
		changed(func(c *impl.Cookie) { c.Path = "/a/" }),
	}
	for _, jar := range [][]impl.Cookie{nil, {}, apart, jarOf(1), jarOf(9, 8, 7, 7, 7, 7, 7, 7, 7, 7)} {
		if !impl.JarOk(jar) || !jarTold(jar) {
			t.Errorf("%+v", jar)
		}
	}
	for why, jar := range wrongJars() {
		if impl.JarOk(jar) || jarTold(jar) {
			t.Errorf("%s: %+v", why, jar)
		}
	}
	for n := range impl.JarMax + 3 {
		if impl.JarOk(jarOf(make([]int, n)...)) != (n <= 10) {
			t.Errorf("%d cookies", n)
		}
	}
}

func TestPromise71WhereACookieIsPut(t *testing.T) {
	jar := jarOf(4, 3, 2)
	for at := range jar {
		c := jar[at]
		c.Value, c.Until, c.Safe, c.Same, c.Made = "new", 90, true, impl.SameNone, 9
		want := slices.Delete(slices.Clone(jar), at, at+1)
		kept := c
		kept.Made = jar[at].Made
		putInto(t, jar, c, 9, append(want, kept))
	}
	for _, change := range []func(c *impl.Cookie){
		func(c *impl.Cookie) { c.Name = "A" },
		func(c *impl.Cookie) { c.Domain = "b.a.com" },
		func(c *impl.Cookie) { c.Alone = true },
		func(c *impl.Cookie) { c.Path = "/a" },
	} {
		c := jar[0]
		c.Made = 9
		change(&c)
		putInto(t, jar, c, 9, append(slices.Clone(jar), c))
	}
	putInto(t, nil, plain(), 9, []impl.Cookie{plain()})
	putInto(t, []impl.Cookie{plain()}, plain(), math.MaxInt, []impl.Cookie{plain()})
	late := changed(func(c *impl.Cookie) { c.Made = 99 })
	putInto(t, jar, late, 5, append(slices.Clone(jar), late))
}

func TestPromise71WhatIsOverGoes(t *testing.T) {
	jar := jarOf(1, 2, 3, 4)
	jar[0].Until, jar[2].Until, jar[3].Until = 8, 9, 10
	for now, want := range map[int]string{6: "a b c d s", 7: "b c d s", 8: "b d s", 9: "b s", 5: "a b c d s", math.MinInt: "a b c d s", math.MaxInt: "b s"} {
		if got := names(impl.JarPut(jar, plain(), now)); got != want {
			t.Errorf("at %d: %q", now, got)
		}
	}
	for now, want := range map[int]string{6: "a b c d s", 7: "b c d", 8: "b d", math.MaxInt: "b"} {
		soon := changed(func(c *impl.Cookie) { c.Until = 8 })
		if got := names(impl.JarPut(jar, soon, now)); got != want {
			t.Errorf("over at %d: %q", now, got)
		}
	}
	again := jar[0]
	again.Made, again.Until = 7, 100
	kept := again
	kept.Made = 1
	putInto(t, jar[:2], again, 50, []impl.Cookie{jar[1], kept})
	again.Until = 51
	putInto(t, jar[:2], again, 50, jar[1:2])
	putInto(t, jar[:1], again, 50, nil)
}

func TestPromise71OfWhatIsNotOk(t *testing.T) {
	for why, jar := range wrongJars() {
		if got := impl.JarPut(jar, plain(), 5); len(got) != 0 {
			t.Errorf("%s: %+v", why, got)
		}
		for _, c := range jar {
			if got := impl.JarPut(jar, c, 5); len(got) != 0 {
				t.Errorf("%s: %+v", why, got)
			}
		}
	}
	over := changed(func(c *impl.Cookie) { c.Until = 1 })
	for why, c := range wrongCookies() {
		putInto(t, []impl.Cookie{over}, c, 5, []impl.Cookie{over})
		putInto(t, jarOf(3, 3, 3, 3, 3, 3, 3, 3, 3, 3), c, 5, jarOf(3, 3, 3, 3, 3, 3, 3, 3, 3, 3))
		if got := impl.JarPut(nil, c, 5); len(got) != 0 {
			t.Errorf("%s: %+v", why, got)
		}
	}
}

func TestPromise71OfMadeJars(t *testing.T) {
	m := &maker{state: 71}
	full, there, over := 0, 0, 0
	for range 3000 {
		jar, c, now := anyJar(m), anyCookie(m), m.below(10)
		got := impl.JarPut(jar, c, now)
		if !slices.Equal(got, jarPutTold(jar, c, now)) || !impl.JarOk(got) {
			t.Fatalf("%+v into %+v at %d: %+v", c, jar, now, got)
		}
		for _, x := range got {
			if endedTold(x, now) {
				t.Fatalf("%+v is over at %d", x, now)
			}
		}
		if endedTold(c, now) {
			over++
			continue
		}
		ofItsPlace := func(x impl.Cookie) bool { return rankTold(x) == rankTold(c) }
		if at := slices.IndexFunc(jar, ofItsPlace); at >= 0 {
			there++
			c.Made = jar[at].Made
		} else if len(jar) == 10 && len(got) == 10 {
			full++
			continue
		}
		if len(got) == 0 || got[len(got)-1] != c {
			t.Fatalf("%+v is not the last of %+v", c, got)
		}
	}
	if full < 20 || there < 100 || over < 100 {
		t.Error(full, there, over)
	}
}

func TestPromise72WhatAnAddressTells(t *testing.T) {
	u := urlOf(t, "https://b.a.com/x/y")
	jar, code := impl.JarSet(jarOf(1, 2), u, "a=9; domain=a.com; path=/; secure", 7)
	if code != impl.JarFine || !slices.Equal(jar, []impl.Cookie{cookieNamed("b", 2), {Name: "a", Value: "9", Domain: "a.com", Path: "/", Safe: true, Same: impl.SameLax, Made: 1}}) {
		t.Errorf("%+v %d", jar, code)
	}
	for text, want := range map[string]int{"": 1, "s=a b": 1, "s=1; domain=com": 2, "s=1; domain=c.com": 2, "s=1; samesite=none": 3, "__Secure-s=1": 4, "__Host-s=1; secure": 4} {
		kept := jarOf(1, 2)
		kept[0].Until = 3
		if jar, code := impl.JarSet(kept, u, text, 7); code != want || !slices.Equal(jar, kept) {
			t.Errorf("%q: %+v %d", text, jar, code)
		}
	}
	for why, jar := range wrongJars() {
		for _, text := range []string{"s=1", "", "s=1; domain=com", "s=1; samesite=none"} {
			if got, code := impl.JarSet(jar, u, text, 7); len(got) != 0 || code != impl.JarForm {
				t.Errorf("%s, %q: %+v %d", why, text, got, code)
			}
		}
	}
	for _, now := range []int{-1, 1000001, math.MinInt, math.MaxInt} {
		if jar, code := impl.JarSet(jarOf(1), u, "s=1", now); code != impl.JarForm || names(jar) != "a" {
			t.Errorf("at %d: %+v %d", now, jar, code)
		}
	}
	for _, u := range append(wrongUrls(), urlOf(t, "about:blank")) {
		if jar, code := impl.JarSet(jarOf(1), u, "s=1", 5); code != impl.JarForm || names(jar) != "a" {
			t.Errorf("%+v: %+v %d", u, jar, code)
		}
	}
}

func TestPromise72IsPutAsItIsRead(t *testing.T) {
	m := &maker{state: 72}
	set, left := 0, 0
	for range 3000 {
		jar, u, text, now := anyJar(m), anyHome(m), anyTelling(m), anyTime(m)
		got, code := impl.JarSet(jar, u, text, now)
		told, toldCode := jarSetTold(jar, u, text, now)
		if code != toldCode || !slices.Equal(got, told) {
			t.Fatalf("%q from %q into %+v at %d: %+v %d", text, impl.UrlPut(u), jar, now, got, code)
		}
		c, wantCode := impl.CookieGet(u, text, now)
		want := jar
		if wantCode == impl.JarFine {
			want = impl.JarPut(jar, c, now)
			set++
		} else {
			left++
		}
		if code != wantCode || !slices.Equal(got, want) {
			t.Fatalf("%q from %q into %+v at %d: %+v %d", text, impl.UrlPut(u), jar, now, got, code)
		}
	}
	if set < 300 || left < 300 {
		t.Error(set, left)
	}
}

func TestPromise73TheLongestPathFirst(t *testing.T) {
	jar := jarOf(5, 3, 5, 3, 9, 0, 1, 1)
	jar[1].Path, jar[2].Path, jar[4].Path, jar[6].Path, jar[7].Path = "/x", "/x", "/x/", "/y", "/x"
	jar[5].Domain = "b.com"
	for text, want := range map[string]string{"http://a.com/x": "h b c d a", "http://a.com/x/z": "e h b c d a", "http://a.com/": "d a", "http://b.com/x": "f", "http://a.com/y": "g d a", "http://c.com/": "", "about:blank": ""} {
		if got := names(impl.JarFor(jar, urlOf(t, text), true, true, 5)); got != want {
			t.Errorf("%q: %q", text, got)
		}
	}
	alike := jarOf(4, 4, 2, 2, 4, 2)
	if got := names(impl.JarFor(alike, urlOf(t, "http://a.com/"), true, true, 5)); got != "c d f a b e" {
		t.Error("as they stand", got)
	}
	over := jarOf(4, 3, 2)
	over[1].Until = 9
	for now, want := range map[int]string{7: "c b a", 8: "c a", math.MinInt: "c b a", math.MaxInt: "c a"} {
		if got := names(impl.JarFor(over, urlOf(t, "http://a.com/"), true, true, now)); got != want {
			t.Errorf("at %d: %q", now, got)
		}
	}
	for why, jar := range wrongJars() {
		if got := impl.JarFor(jar, urlOf(t, "https://a.com/"), true, true, -5); len(got) != 0 {
			t.Errorf("%s: %+v", why, got)
		}
	}
	for _, u := range wrongUrls() {
		if got := impl.JarFor(jar, u, true, true, 5); len(got) != 0 {
			t.Errorf("%+v: %+v", u, got)
		}
	}
}

func TestPromise73JustThoseThatGo(t *testing.T) {
	m := &maker{state: 73}
	several := 0
	for range 3000 {
		jar, u, within, own, now := anyJar(m), anyHome(m), m.below(3) > 0, m.below(2) == 0, m.below(6)
		got := impl.JarFor(jar, u, within, own, now)
		if !slices.Equal(got, jarForTold(jar, u, within, own, now)) {
			t.Fatalf("%+v to %q, %v %v at %d: %+v", jar, impl.UrlPut(u), within, own, now, got)
		}
		for _, c := range jar {
			if slices.Contains(got, c) != impl.CookieGoes(c, u, within, own, now) {
				t.Fatalf("%+v to %q", c, impl.UrlPut(u))
			}
		}
		for i := 1; i < len(got); i++ {
			a, b := got[i-1], got[i]
			later := len(a.Path) == len(b.Path) && (a.Made < b.Made || a.Made == b.Made && slices.Index(jar, a) < slices.Index(jar, b))
			if len(a.Path) <= len(b.Path) && !later {
				t.Fatalf("%+v ahead of %+v", a, b)
			}
		}
		if len(got) > 2 {
			several++
		}
	}
	if several < 100 {
		t.Error(several)
	}
}

func TestPromise74NamesAndValues(t *testing.T) {
	jar := jarOf(3, 2, 1)
	jar[1].Value, jar[2].Value = "", "x:y"
	for n, want := range []string{"", "a=1", "a=1; b=", "a=1; b=; c=x:y"} {
		if got := impl.JarText(jar[:n]); got != want {
			t.Errorf("%q, not %q", got, want)
		}
	}
	for why, jar := range wrongJars() {
		if got := impl.JarText(jar); got != "" {
			t.Errorf("%s: %q", why, got)
		}
	}
	m := &maker{state: 74}
	for range 500 {
		jar := anyJar(m)
		got := impl.JarText(jar)
		if got != jarTextTold(jar) {
			t.Fatalf("%+v: %q", jar, got)
		}
		if len(jar) > 1 && got != jar[0].Name+"="+jar[0].Value+"; "+impl.JarText(jar[1:]) {
			t.Fatalf("%+v: %q", jar, got)
		}
	}
}

func TestPromise75WhatIsOver(t *testing.T) {
	jar := jarOf(1, 2, 3, 4, 5)
	jar[0].Until, jar[2].Until, jar[4].Until = 8, 1, 2000001
	for now, want := range map[int][2]string{
		math.MinInt: {"a b c d e", "a c e"}, -1: {"a b c d e", "a c e"}, 0: {"a b d e", "a e"}, 6: {"a b d e", "a e"}, 7: {"b d e", "e"}, 8: {"b d e", "e"},
		1999999: {"b d e", "e"}, 2000000: {"b d", ""}, math.MaxInt: {"b d", ""},
	} {
		if got := [2]string{names(impl.JarClean(jar, now, false)), names(impl.JarClean(jar, now, true))}; got != want {
			t.Errorf("at %d: %q", now, got)
		}
	}
	for why, jar := range wrongJars() {
		if got := impl.JarClean(jar, -5, false); len(got) != 0 {
			t.Errorf("%s: %+v", why, got)
		}
	}
	if len(impl.JarClean(nil, 5, false)) != 0 {
		t.Error("of none")
	}
}

func TestPromise75NothingElseAndAgainTheSame(t *testing.T) {
	m := &maker{state: 75}
	gone := 0
	for range 1500 {
		jar, now, end := anyJar(m), m.below(12)-1, m.below(3) == 0
		got := impl.JarClean(jar, now, end)
		if !slices.Equal(got, jarCleanTold(jar, now, end)) || !slices.Equal(impl.JarClean(got, now, end), got) || !impl.JarOk(got) {
			t.Fatalf("%+v at %d, %v: %+v", jar, now, end, got)
		}
		for _, c := range jar {
			over := c.Until != 0 && c.Until <= now+1
			if slices.Contains(got, c) == (over || end && c.Until == 0) {
				t.Fatalf("%+v at %d, %v", c, now, end)
			}
		}
		if len(got) < len(jar) {
			gone++
		}
	}
	if gone < 100 {
		t.Error(gone)
	}
}

// With one more than there may be, the first of those that were made first must go; be that the one that was put.
func TestWatchTheEldestMustGo(t *testing.T) {
	for _, c := range []struct {
		made []int
		put  int
		want string
	}{
		{[]int{1, 2, 3, 4, 5, 6, 7, 8, 9, 10}, 11, "b c d e f g h i j s"},
		{[]int{10, 9, 8, 7, 6, 5, 4, 3, 2, 1}, 11, "a b c d e f g h i s"},
		{[]int{5, 4, 3, 2, 2, 2, 3, 4, 5, 6}, 2, "a b c e f g h i j s"},
		{[]int{5, 5, 5, 5, 5, 5, 5, 5, 5, 5}, 5, "b c d e f g h i j s"},
		{[]int{5, 5, 5, 5, 5, 5, 5, 5, 5, 5}, 6, "b c d e f g h i j s"},
		{[]int{5, 5, 5, 5, 5, 5, 5, 5, 5, 5}, 4, "a b c d e f g h i j"},
		{[]int{0, 1000000, 0, 5, 5, 5, 5, 5, 5, 5}, 0, "b c d e f g h i j s"},
		{[]int{5, 4, 5, 5, 5, 5, 5, 5, 5}, 3, "a b c d e f g h i s"},
	} {
		if got := names(impl.JarPut(jarOf(c.made...), cookieNamed("s", c.put), 20)); got != c.want {
			t.Errorf("%v and %d: %q", c.made, c.put, got)
		}
	}
	jar := jarOf(9, 9, 9, 1, 9, 9, 2, 9, 9, 9)
	jar[0].Until = 20
	if got := names(impl.JarPut(jar, cookieNamed("s", 20), 20)); got != "b c d e f g h i j s" {
		t.Error("what is over goes first", got)
	}
	if got := names(impl.JarPut(jar, cookieNamed("d", 20), 0)); got != "a b c e f g h i j d" {
		t.Error("one that takes a place takes no room", got)
	}
	soon := cookieNamed("s", 20)
	soon.Until = 21
	if got := names(impl.JarPut(jar[1:], soon, 20)); got != "b c d e f g h i j" {
		t.Error("one that is over at once takes no room", got)
	}
	u := urlOf(t, "http://a.com/")
	var full []impl.Cookie
	for i := range 25 {
		full, _ = impl.JarSet(full, u, string([]byte{byte('a' + i)})+"=1", i/2)
		if !impl.JarOk(full) || len(full) != min(i+1, 10) {
			t.Fatalf("%d: %+v", i, full)
		}
	}
	if names(full) != "p q r s t u v w x y" {
		t.Error(names(full))
	}
}

// wipe writes over all of an answer, spare room included.
func wipe(jar []impl.Cookie) {
	jar = jar[:cap(jar)]
	for i := range jar {
		jar[i] = impl.Cookie{Name: "wiped"}
	}
}

func TestWhatJarsAnswerIsNewMemory(t *testing.T) {
	u := urlOf(t, "http://a.com/")
	over := cookieNamed("a", 9)
	over.Until = 1
	for what, call := range map[string]func(jar []impl.Cookie) []impl.Cookie{
		"put":           func(jar []impl.Cookie) []impl.Cookie { return impl.JarPut(jar, plain(), 5) },
		"put in place":  func(jar []impl.Cookie) []impl.Cookie { return impl.JarPut(jar, cookieNamed("b", 9), 5) },
		"put, not ok":   func(jar []impl.Cookie) []impl.Cookie { return impl.JarPut(jar, impl.Cookie{}, 5) },
		"put, over":     func(jar []impl.Cookie) []impl.Cookie { return impl.JarPut(jar, over, 5) },
		"put into none": func(jar []impl.Cookie) []impl.Cookie { return impl.JarPut(jar[:0], plain(), 5) },
		"set":           func(jar []impl.Cookie) []impl.Cookie { list, _ := impl.JarSet(jar, u, "s=1", 5); return list },
		"set not":       func(jar []impl.Cookie) []impl.Cookie { list, _ := impl.JarSet(jar, u, "s=1; secure", 5); return list },
		"for":           func(jar []impl.Cookie) []impl.Cookie { return impl.JarFor(jar, u, true, true, 5) },
		"clean":         func(jar []impl.Cookie) []impl.Cookie { return impl.JarClean(jar, 5, false) },
	} {
		for _, size := range []int{4, 10} {
			room := append(jarOf(9, 8, 7, 6, 5, 4, 3, 2, 1, 0), cookieNamed("behind", 1), cookieNamed("end", 1))
			kept, jar := slices.Clone(room), room[:size]
			want := slices.Clone(call(jar))
			wipe(call(jar))
			if !slices.Equal(room, kept) || !slices.Equal(call(jar), want) {
				t.Errorf("%s of %d: an argument is changed", what, size)
			}
		}
	}
}
