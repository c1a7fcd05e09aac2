package tests

import (
	"math"
	"slices"
	"testing"

	"loop.example/guilloche/impl"
)

// goesOn holds that a browser goes to what a text tells, and its code.
func goesOn(t *testing.T, net []impl.Page, b impl.Browser, frame int, text string, want int) impl.Browser {
	t.Helper()
	next, code := impl.BrowserGo(net, b, frame, text)
	if code != want || !impl.BrowserOk(next) {
		t.Fatalf("%q: %d, not %d: %s", text, code, want, drawn(next.Window))
	}
	if code != impl.GoFine && !sameWindow(next.Window, b.Window) {
		t.Fatalf("%q: %d: the window is\n%s", text, code, drawn(next.Window))
	}
	return next
}

// isAt holds at which address a frame is, and at which step the window is.
func isAt(t *testing.T, b impl.Browser, frame int, text string, step int) {
	t.Helper()
	e, ok := impl.WindowNow(b.Window, frame)
	if !ok || impl.UrlPut(e.Url) != text || b.Window.Step != step {
		t.Errorf("%s at %d, not %s at %d", impl.UrlPut(e.Url), b.Window.Step, text, step)
	}
}

func TestPromise85ABrowserBegins(t *testing.T) {
	for _, text := range []string{"http://a.com/x?q#f", "about:blank", longUrl(t, "https://a.com/", 200)} {
		b, ok := impl.BrowserNew(urlOf(t, text))
		if !ok || !impl.BrowserOk(b) || !sameBrowser(b, impl.Browser{Window: opened(t, text)}) {
			t.Errorf("%s: %+v", text, b)
		}
	}
	for _, u := range wrongUrls() {
		if b, ok := impl.BrowserNew(u); ok || !sameBrowser(b, impl.Browser{}) {
			t.Errorf("%+v: %+v", u, b)
		}
	}
}

func TestPromise85WhichBrowsersAreOk(t *testing.T) {
	for _, now := range []int{0, 1, impl.AgeMax} {
		if !impl.BrowserOk(impl.Browser{Window: grown(t), Jar: jarOf(9, 8), Sure: sureOf("a", "b"), Now: now}) {
			t.Error(now)
		}
	}
	for why, b := range wrongBrowsers(t) {
		if impl.BrowserOk(b) || browserTold(b) {
			t.Errorf("%s: %+v", why, b)
		}
	}
}

func TestPromise86WhereOneComes(t *testing.T) {
	net := netOf(
		here(t, "http://a.com/", "one=1"),
		moves(t, "http://a.com/m", "b", "two=2"),
		here(t, "http://a.com/b", "three=3; domain=com"),
		here(t, "https://b.com/", "four=4; secure; samesite=none"),
	)
	b := browserOf(t, "about:blank")
	b.Sure, b.Now = sureOf("b.com"), 7
	b = goesOn(t, net, b, 0, "http://a.com/#x", impl.GoFine)
	isAt(t, b, 0, "http://a.com/#x", 0)
	b = goesOn(t, net, b, 0, "m#y", impl.GoFine)
	isAt(t, b, 0, "http://a.com/b#y", 1)
	b = goesOn(t, net, b, 0, "//b.com", impl.GoFine)
	isAt(t, b, 0, "https://b.com/", 2)
	if names(b.Jar) != "one two four" || b.Jar[0].Made != 7 || b.Now != 7 || !sameSure(b.Sure, sureOf("b.com")) {
		t.Errorf("%+v", b)
	}
	again := goesOn(t, net, b, 0, "", impl.GoFine)
	isAt(t, again, 0, "https://b.com/", 2)
	blank := goesOn(t, net, b, 0, "about:blank", impl.GoFine)
	isAt(t, blank, 0, "about:blank", 3)
	if !slices.Equal(blank.Jar, b.Jar) {
		t.Errorf("%+v", blank.Jar)
	}
}

func TestPromise86InAFrame(t *testing.T) {
	net := netOf(here(t, "http://a.com/"), here(t, "http://c.com/x", "s=1"))
	b := impl.Browser{Window: grown(t)}
	b = goesOn(t, net, b, 3, "x", impl.GoFine)
	isAt(t, b, 3, "http://c.com/x", 4)
	isAt(t, b, 0, "http://a.com/b#f", 4)
	b = goesOn(t, net, b, 0, "/", impl.GoFine)
	isAt(t, b, 0, "http://a.com/", 5)
	for _, frame := range []int{1, 2, 3, 4, -1, math.MaxInt, math.MinInt} {
		if got := goesOn(t, net, b, frame, "x", impl.GoNone); !sameBrowser(got, b) {
			t.Errorf("%+v", got)
		}
	}
}

// To a place on the same page nothing is fetched: there need be no page, and no cookies come.
func TestPromise86OnTheSamePage(t *testing.T) {
	net := netOf(moves(t, "http://a.com/x?q", "/y", "s=1"), here(t, "http://a.com/y", "s=1"))
	b := browserOf(t, "http://a.com/x?q#f", plain())
	for _, text := range []string{"#g", "#", "?q#g", "x?q#g", "http://a.com:80/x?q#g"} {
		got := goesOn(t, net, b, 0, text, impl.GoFine)
		want, _ := impl.UrlJoin(urlOf(t, "http://a.com/x?q#f"), text)
		isAt(t, got, 0, impl.UrlPut(want), 1)
		e, _ := impl.WindowNow(got.Window, 0)
		if e.Doc != 1 || !slices.Equal(got.Jar, b.Jar) {
			t.Errorf("%s: %+v", text, got)
		}
	}
	same := goesOn(t, net, b, 0, "#f", impl.GoFine)
	isAt(t, same, 0, "http://a.com/x?q#f", 0)
	for _, text := range []string{"", "x?q", "?q"} {
		got := goesOn(t, net, b, 0, text, impl.GoFine)
		isAt(t, got, 0, "http://a.com/y", 1)
		if names(got.Jar) != "s s" {
			t.Errorf("%q: %+v", text, got.Jar)
		}
	}
	goesOn(t, net, b, 0, "?r#g", 10+impl.FetchNone)
	goesOn(t, net, b, 0, "https://a.com/x?q#g", 10+impl.FetchNone)
	unsafe := b
	unsafe.Sure = sureOf("a.com")
	got := goesOn(t, net, unsafe, 0, "#g", impl.GoFine)
	isAt(t, got, 0, "http://a.com/x?q#g", 1)
	blank := goesOn(t, nil, browserOf(t, "about:blank"), 0, "#g", impl.GoFine)
	isAt(t, blank, 0, "about:blank#g", 0)
	mail := goesOn(t, nil, b, 0, "mailto:x", impl.GoFine)
	isAt(t, mail, 0, "mailto:x", 1)
}

func TestPromise86WithACodeTheWindowStays(t *testing.T) {
	net := netOf(
		here(t, "http://a.com/"),
		moves(t, "http://a.com/none", "/no", "n=1"),
		moves(t, "http://a.com/many", "", "m=1"),
		moves(t, "http://a.com/to", "x:y", "t=1"),
		here(t, "http://a.com/there", "h=1"),
	)
	b := browserOf(t, "http://a.com/", jarOf(1)...)
	b.Now = 9
	for text, want := range map[string]struct {
		code int
		jar  string
	}{
		"none":           {12, "a n"},
		"many":           {13, "a m"},
		"to":             {14, "a t"},
		"no":             {12, "a"},
		"http://256.1/":  {impl.GoBad, "a"},
		"//":             {impl.GoBad, "a"},
		"http://a.com:x": {impl.GoBad, "a"},
	} {
		got := goesOn(t, net, b, 0, text, want.code)
		if names(got.Jar) != want.jar || got.Now != 9 {
			t.Errorf("%s: %+v", text, got)
		}
	}
	b.Window = asking(t, b.Window, 0, true)
	got := goesOn(t, net, b, 0, "there", impl.GoRefuse)
	if names(got.Jar) != "a h" {
		t.Errorf("the page was fetched: %+v", got.Jar)
	}
	goesOn(t, net, b, 0, "#f", impl.GoFine)
	goesOn(t, net, b, 0, "about:blank", impl.GoRefuse)
	b.Window = asking(t, b.Window, 0, false)
	b.Window.NextDoc = 9999
	if got := goesOn(t, net, b, 0, "there", impl.GoMany); names(got.Jar) != "a h" {
		t.Errorf("%+v", got.Jar)
	}
	full := impl.Browser{Window: climbed(t, 20)}
	goesOn(t, netOf(here(t, "http://a.com/there")), full, 0, "there", impl.GoMany)
	blank := goesOn(t, nil, browserOf(t, "about:blank"), 0, "x", impl.GoBad)
	isAt(t, blank, 0, "about:blank", 0)
}

func TestPromise86OfWhatIsNotOk(t *testing.T) {
	net := netOf(here(t, "http://a.com/"))
	for why, b := range wrongBrowsers(t) {
		for _, text := range []string{"http://a.com/", "#f", "about:blank", ""} {
			if got, code := impl.BrowserGo(net, b, 0, text); code != impl.GoBad || !sameBrowser(got, impl.Browser{}) {
				t.Errorf("%s: %d %+v", why, code, got)
			}
		}
	}
	for why, wrong := range wrongNets(t) {
		for _, text := range []string{"http://a.com/", "#f", "about:blank", ""} {
			if got, code := impl.BrowserGo(wrong, browserOf(t, "http://a.com/"), 0, text); code != impl.GoBad || !sameBrowser(got, impl.Browser{}) {
				t.Errorf("%s: %d %+v", why, code, got)
			}
		}
	}
}

// anyStep is a text that leads somewhere, from most addresses.
func anyStep(m *maker) string {
	return m.pick([]string{"http://a.com/", "http://b.com/", "https://a.com/", "http://a.com/x?q", "/", "#f", "#g", "x", "", "about:blank", "//b.com/#f", "http://256.1/", "?q", "https://b.a.com/y", "//a.com:443/"})
}

// anyShop is pages for these.
func anyShop(m *maker) []impl.Page {
	var net []impl.Page
	for _, text := range []string{"http://a.com/", "http://a.com/x", "http://a.com/x?q", "http://b.com/", "https://a.com/", "https://b.a.com/y", "https://b.com/"} {
		if m.below(5) == 0 {
			continue
		}
		u, _ := impl.UrlGet(text)
		p := impl.Page{Url: u, Kind: 1}
		if m.below(4) == 0 {
			p.Kind, p.To = 2, anyStep(m)
		}
		for range m.below(3) {
			p.Says = append(p.Says, anyTelling(m))
		}
		net = append(net, p)
	}
	if m.below(30) == 0 {
		slices.Reverse(net)
	}
	return net
}

func TestPromise86OfMadeBrowsers(t *testing.T) {
	m := &maker{state: 86}
	codes := map[int]int{}
	for range 300 {
		b := anyBrowser(t, m)
		for range 8 {
			net, frame, text := anyShop(m), anyPlace(m, b.Window), anyStep(m)
			if m.below(6) == 0 {
				b.Window, _ = impl.WindowAsk(b.Window, frame, true)
			}
			got, code := impl.BrowserGo(net, b, frame, text)
			want, wantCode := browserGoTold(net, b, frame, text)
			if code != wantCode || !sameBrowser(got, want) {
				t.Fatalf("%q in %d of %s by %+v:\n%d, not %d: %+v\n%s", text, frame, drawn(b.Window), net, code, wantCode, got, drawn(got.Window))
			}
			codes[code]++
			if impl.NetOk(net) {
				b = got
			}
		}
	}
	for _, code := range []int{impl.GoFine, impl.GoBad, impl.GoNone, impl.GoRefuse, 12, 13, 14} {
		if codes[code] < 20 {
			t.Error(codes)
		}
	}
}

func TestPromise87BackAndForthFetchesNothing(t *testing.T) {
	b := impl.Browser{Window: grown(t), Jar: jarOf(3, 2), Sure: sureOf("a.com"), Now: 9}
	b.Jar[0].Until = 1
	for by, want := range map[int]int{-1: 0, -3: 0, 0: 0, -4: impl.GoEnd, 1: impl.GoEnd, math.MinInt: impl.GoEnd, math.MaxInt: impl.GoEnd} {
		got, code := impl.BrowserBy(b, by)
		w, wCode := impl.WindowBy(b.Window, by)
		same := got
		same.Window = b.Window
		if code != want || wCode != want || !sameWindow(got.Window, w) || !sameBrowser(same, b) {
			t.Errorf("%d: %d %+v", by, code, got)
		}
	}
	b.Window = asking(t, b.Window, 3, true)
	if got, code := impl.BrowserBy(b, -3); code != impl.GoRefuse || !sameBrowser(got, b) {
		t.Errorf("%d %+v", code, got)
	}
	for why, b := range wrongBrowsers(t) {
		for _, by := range []int{0, -1} {
			if got, code := impl.BrowserBy(b, by); code != impl.GoBad || !sameBrowser(got, impl.Browser{}) {
				t.Errorf("%s: %d %+v", why, code, got)
			}
		}
	}
}

func TestPromise88TimeTakesAwayWhatIsOver(t *testing.T) {
	b := browserOf(t, "http://a.com/", jarOf(1, 2, 3, 4)...)
	b.Now = 10
	b.Jar[0].Until, b.Jar[1].Until, b.Jar[2].Until = 13, 14, 9
	for ticks, want := range map[int]string{0: "a b d", 1: "a b d", 2: "b d", 3: "d", impl.AgeMax - 10: "d"} {
		got := impl.BrowserTick(b, ticks)
		if got.Now != 10+ticks || names(got.Jar) != want || !sameWindow(got.Window, b.Window) {
			t.Errorf("%d: %+v", ticks, got)
		}
	}
	for _, ticks := range []int{-1, impl.AgeMax - 9, impl.AgeMax, math.MaxInt, math.MaxInt - 5, math.MinInt} {
		if got := impl.BrowserTick(b, ticks); !sameBrowser(got, b) {
			t.Errorf("%d: %+v", ticks, got)
		}
	}
	for why, b := range wrongBrowsers(t) {
		for _, ticks := range []int{0, 1, -1} {
			if got := impl.BrowserTick(b, ticks); !sameBrowser(got, impl.Browser{}) {
				t.Errorf("%s: %+v", why, got)
			}
		}
	}
}

func TestPromise89WhatGoesWithWhatAPageAsksFor(t *testing.T) {
	jar := []impl.Cookie{
		{Name: "lax", Value: "1", Domain: "a.com", Path: "/", Same: impl.SameLax},
		{Name: "strict", Value: "2", Domain: "a.com", Path: "/x", Same: impl.SameStrict, Until: 8},
		{Name: "none", Value: "3", Domain: "a.com", Path: "/", Safe: true},
		{Name: "safe", Value: "4", Domain: "a.com", Path: "/", Safe: true, Same: impl.SameLax},
		{Name: "four", Value: "5", Domain: "1.2.3.4", Alone: true, Path: "/", Same: impl.SameLax},
	}
	for _, c := range []struct{ at, text, want string }{
		{"http://a.com/", "x", "strict=2; lax=1"},
		{"http://a.com/", "", "lax=1"},
		{"http://a.com/", "//b.a.com:81/x/y?q#f", "strict=2; lax=1"},
		{"http://a.com/", "https://a.com/", "none=3"},
		{"https://a.com/", "/x", "strict=2; lax=1; none=3; safe=4"},
		{"https://a.com/", "http://a.com/x", ""},
		{"https://b.com/", "//a.com/x", "none=3"},
		{"http://b.com/", "//a.com/x", ""},
		{"http://b.com/", "/x", ""},
		{"http://1.2.3.4/", "x", "four=5"},
		{"http://1.2.3.5/", "//1.2.3.4/", ""},
		{"about:blank", "https://a.com/x", "none=3"},
		{"about:blank", "http://a.com/x", ""},
		{"about:blank", "x", ""},
		{"about:blank", "#x", ""},
		{"https://a.com/", "about:blank", ""},
		{"https://a.com/", "http://256.1/", ""},
		{"https://a.com/", "//", ""},
	} {
		b := browserOf(t, c.at, jar...)
		if got := impl.BrowserTell(b, 0, c.text); got != c.want {
			t.Errorf("%q from %s: %q", c.text, c.at, got)
		}
		b.Now = 7
		late := browserTellTold(b, 0, c.text)
		if got := impl.BrowserTell(b, 0, c.text); got != late {
			t.Errorf("%q from %s: %q, not %q", c.text, c.at, got, late)
		}
	}
}

// What a page asks for at a host that is only gone to safely goes there safely; whether that is of its site is asked of where it goes.
func TestPromise89OfHostsThatAreOnlyGoneToSafely(t *testing.T) {
	jar := []impl.Cookie{
		{Name: "lax", Value: "1", Domain: "a.com", Path: "/", Same: impl.SameLax},
		{Name: "none", Value: "3", Domain: "a.com", Path: "/", Safe: true},
	}
	for _, c := range []struct{ at, text, want string }{
		{"https://a.com/", "http://a.com/", "lax=1; none=3"},
		{"https://b.com/", "http://a.com/", "none=3"},
		{"http://a.com/", "/", "none=3"},
		{"http://b.com/", "//b.a.com:81/", "none=3"},
	} {
		b := browserOf(t, c.at, jar...)
		b.Sure = sureOf("a.com")
		if got := impl.BrowserTell(b, 0, c.text); got != c.want {
			t.Errorf("%q from %s: %q", c.text, c.at, got)
		}
	}
}

func TestPromise89OfWhatIsNotThere(t *testing.T) {
	b := impl.Browser{Window: grown(t), Jar: []impl.Cookie{plain()}}
	if got := impl.BrowserTell(b, 0, "/"); got != "s=1" {
		t.Error(got)
	}
	if got := impl.BrowserTell(b, 1, "/"); got != "s=1" {
		t.Error(got)
	}
	b.Window = moved(t, b.Window, -3)
	for _, frame := range []int{1, 2, 4, -1, math.MinInt, math.MaxInt} {
		if got := impl.BrowserTell(b, frame, "http://a.com/"); got != "" {
			t.Errorf("%d: %q", frame, got)
		}
	}
	for why, b := range wrongBrowsers(t) {
		b.Jar = append(b.Jar, plain())
		if got := impl.BrowserTell(b, 0, "http://a.com/"); got != "" {
			t.Errorf("%s: %q", why, got)
		}
	}
	late := browserOf(t, "http://a.com/", plain())
	for now, want := range map[int]string{-1: "", 0: "s=1", impl.AgeMax: "s=1", impl.AgeMax + 1: ""} {
		late.Now = now
		if got := impl.BrowserTell(late, 0, ""); got != want {
			t.Errorf("%d: %q", now, got)
		}
	}
}

func TestPromise87To90OfMadeBrowsers(t *testing.T) {
	m := &maker{state: 87}
	moved, ended, told := 0, 0, 0
	for range 1500 {
		b := anyBrowser(t, m)
		by, ticks, more := m.below(7)-3, m.below(8)-1, m.below(8)-1
		got, code := impl.BrowserBy(b, by)
		if want, wantCode := browserByTold(b, by); code != wantCode || !sameBrowser(got, want) {
			t.Fatalf("%d: %d %+v", by, code, got)
		}
		if code == impl.GoFine && by != 0 {
			moved++
		}
		once := impl.BrowserTick(b, ticks)
		if !sameBrowser(once, browserTickTold(b, ticks)) {
			t.Fatalf("%d: %+v", ticks, once)
		}
		if len(once.Jar) < len(b.Jar) {
			ended++
		}
		if ticks >= 0 && more >= 0 && b.Now+ticks+more <= impl.AgeMax && !sameBrowser(impl.BrowserTick(once, more), impl.BrowserTick(b, ticks+more)) {
			t.Fatalf("%d and %d: %+v", ticks, more, b)
		}
		tellHolds(t, m, b, &told)
		again := impl.BrowserAgain(b)
		if !sameBrowser(again, browserAgainTold(b)) || !impl.BrowserOk(again) {
			t.Fatalf("%+v", again)
		}
	}
	if moved < 100 || ended < 200 || told < 100 {
		t.Error(moved, ended, told)
	}
}

// tellHolds says what goes, and that nothing goes unsafely, or to another site, that should not.
func tellHolds(t *testing.T, m *maker, b impl.Browser, told *int) {
	t.Helper()
	for range 4 {
		frame, text := anyPlace(m, b.Window), anyStep(m)
		if m.below(2) == 0 {
			text = impl.UrlPut(anyHome(m))
		}
		got := impl.BrowserTell(b, frame, text)
		if got != browserTellTold(b, frame, text) {
			t.Fatalf("%q in %d of %+v: %q, not %q", text, frame, b, got, browserTellTold(b, frame, text))
		}
		if got != "" {
			*told++
		}
		from, _ := hereTold(b.Window, frame)
		u, _ := impl.UrlJoin(from, text)
		to := impl.SureUrl(b.Sure, u)
		some := b
		some.Jar = slices.DeleteFunc(slices.Clone(b.Jar), func(c impl.Cookie) bool {
			return c.Safe && to.Scheme == "http" || c.Same != impl.SameNone && !impl.SiteSame(from, to)
		})
		if impl.BrowserTell(some, frame, text) != got {
			t.Fatalf("%q of %+v: %q", text, b, got)
		}
	}
}

func TestPromise90OpenedAgain(t *testing.T) {
	b := impl.Browser{Window: grown(t), Jar: jarOf(1, 2, 3, 4), Sure: sureOf("a.com"), Now: 7}
	b.Jar[1].Until, b.Jar[2].Until = 9, 8
	for _, frame := range []int{0, 2, 3} {
		b.Window = asking(t, b.Window, frame, true)
	}
	got := impl.BrowserAgain(b)
	if names(got.Jar) != "b" || got.Now != 7 || !sameSure(got.Sure, b.Sure) || !slices.Equal(seen(got.Window), seen(b.Window)) {
		t.Errorf("%+v", got)
	}
	want := b
	want.Window = grown(t)
	if !sameWindow(got.Window, want.Window) || !sameBrowser(impl.BrowserAgain(got), got) {
		t.Error(drawn(got.Window))
	}
	if _, code := impl.BrowserBy(got, -3); code != impl.GoFine {
		t.Error("no page asks", code)
	}
	away := impl.Browser{Window: moved(t, grown(t), -3)}
	away.Window.Frames[3].Asks = true
	if !impl.BrowserOk(away) || impl.BrowserAgain(away).Window.Frames[3].Asks {
		t.Error("nor one that is away")
	}
	for why, b := range wrongBrowsers(t) {
		if got := impl.BrowserAgain(b); !sameBrowser(got, impl.Browser{}) {
			t.Errorf("%s: %+v", why, got)
		}
	}
}

func TestPromise91WhatIsSavedOpensABrowserAgain(t *testing.T) {
	m := &maker{state: 91}
	for range 300 {
		b := anyBrowser(t, m)
		w, ok := impl.WindowGet(impl.WindowPut(b.Window))
		jar, also := impl.JarLoad(impl.JarSave(b.Jar))
		again := impl.Browser{Window: w, Jar: jar, Sure: b.Sure, Now: b.Now}
		if !ok || !also || !sameBrowser(again, b) || !impl.BrowserOk(again) {
			t.Fatalf("%+v, not %+v", again, b)
		}
	}
	for why, b := range wrongBrowsers(t) {
		w, ok := impl.WindowGet(impl.WindowPut(b.Window))
		jar, also := impl.JarLoad(impl.JarSave(b.Jar))
		again := impl.Browser{Window: w, Jar: jar, Sure: b.Sure, Now: b.Now}
		if ok && also && sameBrowser(again, b) && impl.BrowserOk(again) {
			t.Errorf("%s: %+v", why, again)
		}
	}
}

// wipeBrowser writes over all of an answer, spare room included.
func wipeBrowser(b impl.Browser) {
	spoilWindow(b.Window)
	wipe(b.Jar)
	hosts := b.Sure.Hosts[:cap(b.Sure.Hosts)]
	for i := range hosts {
		hosts[i] = "wiped"
	}
}

func TestWhatBrowsersAnswerIsNewMemory(t *testing.T) {
	net := netOf(here(t, "http://a.com/", "s=1"), here(t, "http://a.com/m", "s=1; secure"))
	b := impl.Browser{Window: grown(t), Jar: jarOf(1, 2, 3), Sure: sureOf("q.com", "r.com", "s.com"), Now: 7}
	b.Window.Frames = append(b.Window.Frames, impl.Frame{Name: "behind"})[:4]
	b.Jar, b.Sure.Hosts = b.Jar[:2], b.Sure.Hosts[:2]
	was := impl.Browser{Window: copiedWindow(b.Window), Jar: slices.Clone(b.Jar), Sure: sureOf("q.com", "r.com"), Now: 7}
	for what, call := range map[string]func() impl.Browser{
		"go":        func() impl.Browser { x, _ := impl.BrowserGo(net, b, 0, "/"); return x },
		"go denied": func() impl.Browser { x, _ := impl.BrowserGo(net, b, 0, "/m"); return x },
		"go on":     func() impl.Browser { x, _ := impl.BrowserGo(net, b, 0, "#g"); return x },
		"go not":    func() impl.Browser { x, _ := impl.BrowserGo(net, b, 0, "/no"); return x },
		"go none":   func() impl.Browser { x, _ := impl.BrowserGo(net, b, 9, "/"); return x },
		"go bad":    func() impl.Browser { x, _ := impl.BrowserGo(net, b, 0, "//"); return x },
		"by":        func() impl.Browser { x, _ := impl.BrowserBy(b, -1); return x },
		"by not":    func() impl.Browser { x, _ := impl.BrowserBy(b, 1); return x },
		"tick":      func() impl.Browser { return impl.BrowserTick(b, 1) },
		"tick not":  func() impl.Browser { return impl.BrowserTick(b, -1) },
		"again":     func() impl.Browser { return impl.BrowserAgain(b) },
	} {
		first, second := call(), call()
		wipeBrowser(first)
		if !sameBrowser(b, was) || !sameBrowser(call(), second) || !impl.NetOk(net) {
			t.Fatalf("%s: an argument is changed", what)
		}
		if b.Window.Frames[:5][4].Name != "behind" || b.Jar[:3][2].Name != "c" || b.Sure.Hosts[:3][2] != "s.com" {
			t.Fatalf("%s: what is behind an argument is changed", what)
		}
	}
}
