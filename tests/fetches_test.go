package tests

import (
	"math"
	"slices"
	"strings"
	"testing"

	"loop.example/guilloche/impl"
)

// fetches holds what Fetch answers: where one came, by which addresses, and which cookies one has then.
func fetches(t *testing.T, net []impl.Page, s impl.Sure, u string, code int, jar string, denied int, way ...string) {
	t.Helper()
	got, k := impl.Fetch(net, s, nil, urlOf(t, "about:blank"), urlOf(t, u), 5)
	if k != code || !slices.Equal(got.Way, way) || impl.JarText(got.Jar) != jar || got.Denied != denied || impl.UrlPut(got.Url) != way[len(way)-1] {
		t.Errorf("%s: %d by %q to %q with %q, %d denied", u, k, got.Way, impl.UrlPut(got.Url), impl.JarText(got.Jar), got.Denied)
	}
}

// longUrl is an address that is so many bytes as it is written.
func longUrl(t *testing.T, begin string, size int) string {
	t.Helper()
	text := begin + strings.Repeat("y", size-len(begin))
	if impl.UrlPut(urlOf(t, text)) != text {
		t.Fatalf("%q is written otherwise", text)
	}
	return text
}

func TestPromise77WhichPagesAreOk(t *testing.T) {
	long := strings.Repeat("y", 200)
	for _, net := range [][]impl.Page{
		nil, {}, pagesOf(t, 1), pagesOf(t, 10),
		{here(t, "http://a.com/"), here(t, "http://a.com/a"), here(t, "http://a.com:81/"), here(t, "http://u:p@a.com/"), here(t, "https://1.2.3.4/?q")},
		{moves(t, "http://a.com/", ""), moves(t, "http://a.com/?", long, long, long)},
		{here(t, longUrl(t, "http://a.com/", 200), "", "")},
	} {
		if !impl.NetOk(net) || !netTold(net) {
			t.Errorf("%+v", net)
		}
	}
	for why, net := range wrongNets(t) {
		if impl.NetOk(net) || netTold(net) {
			t.Errorf("%s: %+v", why, net)
		}
	}
}

func TestPromise77WhereAPageIs(t *testing.T) {
	net := netOf(here(t, "http://a.com/"), moves(t, "http://a.com/?", "x"), here(t, "http://a.com/a"), here(t, "http://u@a.com/"), here(t, "https://a.com/"))
	for place, p := range net {
		u := p.Url
		for _, end := range []string{"", "f", "a?b/#c"} {
			u.HasFrag, u.Frag = true, end
			if impl.NetAt(net, u) != place || !impl.UrlSame(u, p.Url) {
				t.Error(place, impl.UrlPut(u))
			}
		}
		if impl.NetAt(net, p.Url) != place {
			t.Error(place)
		}
	}
	for _, text := range []string{"http://a.com/?q", "http://a.com/A", "http://a.com//", "http://a.com:81/", "http://u:p@a.com/", "http://b.com/", "about:blank", "about:http://a.com/"} {
		if at := impl.NetAt(net, urlOf(t, text)); at != -1 {
			t.Error(text, at)
		}
	}
	if at := impl.NetAt(net, urlOf(t, "HTTPS://A.com:443/x/..//#f")); at != -1 {
		t.Error("a path of two slashes", at)
	}
	if at := impl.NetAt(net, urlOf(t, "HTTPS://A.com:443/x/..#f")); at != 4 {
		t.Error("however it was read", at)
	}
}

func TestPromise77OfWhatIsNotOk(t *testing.T) {
	for why, net := range wrongNets(t) {
		for _, p := range append(net, here(t, "http://a.com/")) {
			if at := impl.NetAt(net, p.Url); at != -1 {
				t.Errorf("%s: %d", why, at)
			}
		}
	}
	net := netOf(here(t, "http://a.com/"), here(t, "http://a.com/a%20b"))
	for _, u := range wrongUrls() {
		if at := impl.NetAt(net, u); at != -1 {
			t.Errorf("%+v: %d", u, at)
		}
	}
	if at := impl.NetAt(nil, urlOf(t, "http://a.com/")); at != -1 {
		t.Error(at)
	}
}

func TestPromise77OfMadePages(t *testing.T) {
	m := &maker{state: 77}
	found, wrong := 0, 0
	for range 4000 {
		net, u := anyNet(m), anySpot(m)
		if m.below(30) == 0 {
			u = anyHome(m)
		}
		at := impl.NetAt(net, u)
		if impl.NetOk(net) != netTold(net) || at != netAtTold(net, u) {
			t.Fatalf("%+v: %v, %d of %q", net, impl.NetOk(net), at, impl.UrlPut(u))
		}
		if !impl.NetOk(net) {
			wrong++
		} else if at >= 0 {
			found++
		}
	}
	if found < 500 || wrong < 40 {
		t.Error(found, wrong)
	}
}

func TestPromise78WhichHostsAreOk(t *testing.T) {
	for _, s := range []impl.Sure{
		{}, sureOf(), sureOf("a.com"), sureOf("a", "b", "c", "d", "e", "f"),
		sureOf("a.com", "a.com.", "b.a.com", "ba.com", "com"), sureOf("-", "0y", "_a.com-", strings.Repeat("a", 60)),
	} {
		if !impl.SureOk(s) || !sureTold(s) {
			t.Errorf("%q", s.Hosts)
		}
	}
	for why, s := range wrongSures() {
		if impl.SureOk(s) || sureTold(s) {
			t.Errorf("%s: %q", why, s.Hosts)
		}
	}
}

func TestPromise78AHostThatWasAdded(t *testing.T) {
	var s impl.Sure
	for i, host := range []string{"m.com", "z.com", "a.com", "m.com.", "b.m.com", "com"} {
		next, ok := impl.SurePut(s, host)
		again, also := impl.SurePut(next, host)
		if !ok || !also || len(next.Hosts) != i+1 || !impl.SureOk(next) || !sameSure(again, next) {
			t.Errorf("%s: %q, %q", host, next.Hosts, again.Hosts)
		}
		for _, u := range []string{"http://" + host + "/", "http://b." + host + "/x?q#f", "http://c.b." + host + ":81/"} {
			if got := impl.SureUrl(next, urlOf(t, u)); got.Scheme != "https" {
				t.Error(u, impl.UrlPut(got))
			}
		}
		s = next
	}
	if want := sureOf("a.com", "b.m.com", "com", "m.com", "m.com.", "z.com"); !sameSure(s, want) {
		t.Errorf("%q", s.Hosts)
	}
	for _, host := range []string{"b.com", "a", "zz"} {
		if got, ok := impl.SurePut(s, host); ok || !sameSure(got, s) {
			t.Errorf("%s is one too many: %q", host, got.Hosts)
		}
	}
	for _, host := range s.Hosts {
		if got, ok := impl.SurePut(s, host); !ok || !sameSure(got, s) {
			t.Errorf("%s is there: %q", host, got.Hosts)
		}
	}
}

func TestPromise78OfWhatIsNoHost(t *testing.T) {
	for _, host := range wrongNames() {
		for _, s := range []impl.Sure{{}, sureOf("a.com", "zz")} {
			if got, ok := impl.SurePut(s, host); ok || !sameSure(got, s) {
				t.Errorf("%q into %q: %q", host, s.Hosts, got.Hosts)
			}
		}
	}
	for why, s := range wrongSures() {
		for _, host := range append(s.Hosts, "b.com", "", "A.com") {
			if got, ok := impl.SurePut(s, host); ok || len(got.Hosts) != 0 {
				t.Errorf("%s: %q", why, got.Hosts)
			}
		}
	}
}

func TestPromise79WhatAnAddressIsGoneToBy(t *testing.T) {
	s := sureOf("a.com", "b.a.com", "x.", "y")
	for text, want := range map[string]string{
		"http://a.com/":                   "https://a.com/",
		"http://u:p@c.a.com:81/a//b/?q#f": "https://u:p@c.a.com:81/a//b/?q#f",
		"http://a.com:443/":               "https://a.com/",
		"http://a.com:444/?#":             "https://a.com:444/?#",
		"http://a.com:0/":                 "https://a.com:0/",
		"http://b.a.com/":                 "https://b.a.com/",
		"http://y/":                       "https://y/",
		"http://z.y/":                     "https://z.y/",
		"http://x./":                      "https://x./",
		"http://x/":                       "http://x/",
		"http://y./":                      "http://y./",
		"http://ba.com/":                  "http://ba.com/",
		"http://com/":                     "http://com/",
		"http://a.com.b/":                 "http://a.com.b/",
		"http://a.com./":                  "http://a.com./",
		"https://a.com/":                  "https://a.com/",
		"https://a.com:80/":               "https://a.com:80/",
		"https://q.com:81/":               "https://q.com:81/",
		"http://1.2.3.4/":                 "http://1.2.3.4/",
		"about:blank#f":                   "about:blank#f",
		"httpx://a.com/":                  "httpx://a.com/",
	} {
		got := impl.SureUrl(s, urlOf(t, text))
		if impl.UrlPut(got) != want || !sameUrl(impl.SureUrl(s, got), got) {
			t.Errorf("%s: %s", text, impl.UrlPut(got))
		}
		if plain := impl.SureUrl(impl.Sure{}, urlOf(t, text)); !sameUrl(plain, urlOf(t, text)) {
			t.Errorf("no hosts: %s: %s", text, impl.UrlPut(plain))
		}
	}
}

func TestPromise79HowLongAnAddressMayBe(t *testing.T) {
	s := sureOf("a.com")
	for size, scheme := range map[int]string{198: "https", 199: "https", 200: "http"} {
		u := urlOf(t, longUrl(t, "http://a.com/", size))
		want := u
		want.Scheme = scheme
		if got := impl.SureUrl(s, u); !sameUrl(got, want) {
			t.Errorf("%d: %s", size, impl.UrlPut(got))
		}
	}
	got := impl.SureUrl(s, urlOf(t, longUrl(t, "http://a.com:443/", 200)))
	if got.Scheme != "https" || got.Port != -1 || len(impl.UrlPut(got)) != 197 {
		t.Error(impl.UrlPut(got))
	}
	got = impl.SureUrl(s, urlOf(t, longUrl(t, "http://a.com:81/", 200)))
	if got.Scheme != "http" || got.Port != 81 {
		t.Error(impl.UrlPut(got))
	}
}

func TestPromise79OfWhatIsNotOk(t *testing.T) {
	for why, s := range wrongSures() {
		for _, text := range []string{"http://a.com/", "https://a.com/", "about:blank"} {
			if got := impl.SureUrl(s, urlOf(t, text)); !sameUrl(got, impl.Url{}) {
				t.Errorf("%s: %+v", why, got)
			}
		}
	}
	for _, s := range []impl.Sure{{}, sureOf("a.com")} {
		for _, u := range wrongUrls() {
			if got := impl.SureUrl(s, u); !sameUrl(got, impl.Url{}) {
				t.Errorf("%+v: %+v", u, got)
			}
		}
	}
}

func TestPromise78And79OfMadeAddresses(t *testing.T) {
	m := &maker{state: 78}
	safe, wrong := 0, 0
	for range 5000 {
		s, u := anySure(m), anyHome(m)
		host := m.pick(append(wrongNames(), "a.com", "b.a.com", "com", "q.a.com", "x", "y", "z"))
		got := impl.SureUrl(s, u)
		if impl.SureOk(s) != sureTold(s) || !sameUrl(got, sureUrlTold(s, u)) {
			t.Fatalf("%q: %s: %s", s.Hosts, impl.UrlPut(u), impl.UrlPut(got))
		}
		next, ok := impl.SurePut(s, host)
		if want, wantOk := surePutTold(s, host); ok != wantOk || !sameSure(next, want) {
			t.Fatalf("%q into %q: %q %v", host, s.Hosts, next.Hosts, ok)
		}
		if !impl.SureOk(s) {
			wrong++
			continue
		}
		if !sameUrl(impl.SureUrl(s, got), got) {
			t.Fatalf("%q: again %s", s.Hosts, impl.UrlPut(got))
		}
		same := got
		same.Scheme, same.Port = u.Scheme, u.Port
		if impl.UrlOk(u) && (!sameUrl(same, u) || got.Port != u.Port && u.Port != 443) {
			t.Fatalf("%s: %s", impl.UrlPut(u), impl.UrlPut(got))
		}
		if got.Scheme != u.Scheme {
			safe++
		}
	}
	if safe < 100 || wrong < 40 {
		t.Error(safe, wrong)
	}
}

func TestPromise80WhatIsToldOfWhereOneIs(t *testing.T) {
	for _, c := range []struct{ from, to, want string }{
		{"http://a.com/", "http://a.com/", "http://a.com/"},
		{"http://u:p@a.com/x/?q#f", "http://a.com/y", "http://a.com/x/?q"},
		{"http://u@a.com/?#", "http://w:z@a.com/#g", "http://a.com/?"},
		{"http://:p@a.com:81/x#f", "http://a.com:81/", "http://a.com:81/x"},
		{"https://u:p@a.com/x?q#f", "https://a.com/", "https://a.com/x?q"},
		{"http://u:p@a.com/x?q#f", "http://b.a.com/", "http://a.com/"},
		{"http://u:p@a.com/x", "http://a.com:81/", "http://a.com/"},
		{"http://a.com:81/x", "http://a.com/", "http://a.com:81/"},
		{"http://a.com/x", "https://a.com/", "http://a.com/"},
		{"http://a.com:443/x", "https://a.com/", "http://a.com:443/"},
		{"https://a.com:81/x", "https://a.com/x", "https://a.com:81/"},
		{"http://1.2.3.4/x", "http://0x1020304/y", "http://1.2.3.4/x"},
		{"http://1.2.3.4/x", "http://1.2.3.5/y", "http://1.2.3.4/"},
		{"https://a.com/x", "http://a.com/x", ""},
		{"https://a.com/x", "http://b.com/", ""},
		{"https://a.com:80/x", "http://a.com:80/x", ""},
		{"about:blank", "http://a.com/", ""},
		{"http://a.com/", "about:blank", ""},
		{"https://a.com/", "about:blank", ""},
		{"about:blank", "about:blank", ""},
	} {
		if got := impl.Refer(urlOf(t, c.from), urlOf(t, c.to)); got != c.want {
			t.Errorf("from %s to %s: %q", c.from, c.to, got)
		}
	}
	for _, u := range wrongUrls() {
		for _, text := range []string{"http://a.com/", "https://a.com/", "about:blank"} {
			if a, b := impl.Refer(u, urlOf(t, text)), impl.Refer(urlOf(t, text), u); a != "" || b != "" {
				t.Errorf("%+v, %s: %q, %q", u, text, a, b)
			}
		}
	}
}

func TestPromise80OfMadeAddresses(t *testing.T) {
	m := &maker{state: 80}
	same, other := 0, 0
	for range 4000 {
		from, to := anyHome(m), anyHome(m)
		got := impl.Refer(from, to)
		if got != referTold(from, to) {
			t.Fatalf("from %s to %s: %q, not %q", impl.UrlPut(from), impl.UrlPut(to), got, referTold(from, to))
		}
		if got == "" {
			continue
		}
		u, ok := impl.UrlGet(got)
		if !ok || !impl.OriginSame(u, from) || u.User+u.Pass != "" || u.HasFrag {
			t.Fatalf("from %s to %s: %q", impl.UrlPut(from), impl.UrlPut(to), got)
		}
		if impl.OriginSame(from, to) {
			same++
		} else if other++; u.HasQuery || impl.PathPut(u.Path) != "/" {
			t.Fatalf("from %s to %s: %q", impl.UrlPut(from), impl.UrlPut(to), got)
		}
	}
	if same < 100 || other < 500 {
		t.Error(same, other)
	}
}

func TestPromise81WhereOneComes(t *testing.T) {
	net := netOf(
		here(t, "http://a.com/", "one=1", "two=2"),
		moves(t, "http://a.com/m", "/"),
		moves(t, "http://b.com/", "//a.com/m?", "b=1; domain=a.com", "c=3"),
		moves(t, "http://a.com/m?", "m"),
		moves(t, "http://c.com/", "x:y"),
		moves(t, "http://d.com/", "http://256.1/"),
		moves(t, "http://e.com/", "none"),
	)
	fetches(t, net, sureOf(), "http://a.com/", impl.FetchFine, "one=1; two=2", 0, "http://a.com/")
	fetches(t, net, sureOf(), "http://a.com/m", impl.FetchFine, "one=1; two=2", 0, "http://a.com/m", "http://a.com/")
	fetches(t, net, sureOf(), "http://b.com/", impl.FetchFine, "c=3; one=1; two=2", 1, "http://b.com/", "http://a.com/m?", "http://a.com/m", "http://a.com/")
	fetches(t, net, sureOf(), "http://c.com/", impl.FetchTo, "", 0, "http://c.com/")
	fetches(t, net, sureOf(), "http://d.com/", impl.FetchTo, "", 0, "http://d.com/")
	fetches(t, net, sureOf(), "http://e.com/", impl.FetchNone, "", 0, "http://e.com/", "http://e.com/none")
	fetches(t, net, sureOf(), "http://f.com/", impl.FetchNone, "", 0, "http://f.com/")
	fetches(t, nil, sureOf(), "http://a.com/", impl.FetchNone, "", 0, "http://a.com/")
	fetches(t, net, sureOf("a.com"), "http://b.com/", impl.FetchNone, "c=3", 1, "http://b.com/", "https://a.com/m?")
}

// chain is so many pages that move on, one to the next, and one that is there.
func chain(t *testing.T, many int) []impl.Page {
	t.Helper()
	net := pagesOf(t, many+1)
	for i := range many {
		net[i].Kind, net[i].To = impl.PageMove, impl.UrlPut(net[i+1].Url)
		net[i].Says = []string{string([]byte{byte('a' + i)}) + "=1"}
	}
	return net
}

func TestPromise81HowOftenPagesMoveOn(t *testing.T) {
	for many := range 10 {
		got, code := impl.Fetch(chain(t, many), impl.Sure{}, nil, urlOf(t, "about:blank"), urlOf(t, "http://a.com/a"), 0)
		want, stops := impl.FetchFine, many+1
		if many > impl.MoveMax {
			want, stops = impl.FetchMany, 6
		}
		last := "http://a.com/" + string([]byte{byte('a' + stops - 1)})
		if code != want || len(got.Way) != stops || impl.UrlPut(got.Url) != last || got.Way[stops-1] != last || len(got.Jar) != min(many, 6) {
			t.Errorf("%d moves: %d, %+v", many, code, got)
		}
	}
	net := chain(t, 6)
	net[5].To = "about:blank"
	if got, code := impl.Fetch(net, impl.Sure{}, nil, urlOf(t, "about:blank"), net[0].Url, 0); code != impl.FetchTo || len(got.Way) != 6 {
		t.Error("the last one leads nowhere", code, got)
	}
	if _, code := impl.Fetch(net[:5], impl.Sure{}, nil, urlOf(t, "about:blank"), net[0].Url, 0); code != impl.FetchNone {
		t.Error("the last one is none", code)
	}
}

func TestPromise81OfWhatIsNotOk(t *testing.T) {
	net, jar := netOf(here(t, "http://a.com/", "s=1")), jarOf(1, 2)
	blank, u := urlOf(t, "about:blank"), urlOf(t, "http://a.com/")
	bad := func(why string, got impl.Fetched, code int) {
		if !sameFetched(got, impl.Fetched{}) || code != impl.FetchBad {
			t.Errorf("%s: %+v %d", why, got, code)
		}
	}
	for why, wrong := range wrongNets(t) {
		got, code := impl.Fetch(wrong, impl.Sure{}, jar, blank, u, 5)
		bad(why, got, code)
	}
	for why, wrong := range wrongSures() {
		got, code := impl.Fetch(net, wrong, jar, blank, u, 5)
		bad(why, got, code)
	}
	for why, wrong := range wrongJars() {
		got, code := impl.Fetch(net, impl.Sure{}, wrong, blank, u, 5)
		bad(why, got, code)
	}
	for _, wrong := range wrongUrls() {
		got, code := impl.Fetch(net, impl.Sure{}, jar, wrong, u, 5)
		bad("from", got, code)
		got, code = impl.Fetch(net, impl.Sure{}, jar, u, wrong, 5)
		bad("to", got, code)
	}
	for _, wrong := range []string{"about:blank", "x:y", "httpx://a.com/"} {
		got, code := impl.Fetch(net, impl.Sure{}, jar, u, urlOf(t, wrong), 5)
		bad(wrong, got, code)
	}
	for _, now := range []int{-1, impl.AgeMax + 1, math.MinInt, math.MaxInt} {
		got, code := impl.Fetch(net, impl.Sure{}, jar, blank, u, now)
		bad("a time", got, code)
	}
	for _, now := range []int{0, impl.AgeMax} {
		got, code := impl.Fetch(net, impl.Sure{}, jar, blank, u, now)
		if code != impl.FetchFine || len(got.Jar) != 3 || got.Jar[2].Made != now {
			t.Error(now, code, got)
		}
	}
}

func TestPromise81And82And83OfMadePages(t *testing.T) {
	m := &maker{state: 81}
	codes := map[int]int{}
	moved, denied, ended := 0, 0, 0
	for range 6000 {
		net, s, jar, now := anyNet(m), anySure(m), anyJar(m), anyTime(m)
		from, u := anyHome(m), anySpot(m)
		if m.below(60) == 0 {
			u = anyHome(m)
		}
		got, code := impl.Fetch(net, s, jar, from, u, now)
		want, wantCode := fetchTold(net, s, jar, from, u, now)
		if code != wantCode || !sameFetched(got, want) {
			t.Fatalf("%s at %d by\n%+v\n%q\n%d: %+v\n%d: %+v", impl.UrlPut(u), now, net, s.Hosts, code, got, wantCode, want)
		}
		codes[code]++
		if code == impl.FetchBad {
			continue
		}
		wayHolds(t, net, s, got)
		if code == impl.FetchFine && len(got.Way) > 1 {
			moved++
		}
		if got.Denied > 0 {
			denied++
		}
		if got.Url.HasFrag {
			ended++
		}
		if code == impl.FetchFine {
			again, k := impl.Fetch(net, s, got.Jar, u, got.Url, now)
			if k != impl.FetchFine || len(again.Way) != 1 || !sameUrl(again.Url, got.Url) {
				t.Fatalf("%s is not there at once: %+v", impl.UrlPut(got.Url), again)
			}
		}
		silentHolds(t, net, s, jar, u, now, got, code)
	}
	for code := range 5 {
		if codes[code] < 100 {
			t.Error("code", code, codes[code])
		}
	}
	if moved < 100 || denied < 200 || ended < 200 {
		t.Error(moved, denied, ended)
	}
}

// wayHolds says that one goes safely all the way, and that all but the last page move on.
func wayHolds(t *testing.T, net []impl.Page, s impl.Sure, got impl.Fetched) {
	t.Helper()
	for i, text := range got.Way {
		u := urlOf(t, text)
		at := impl.NetAt(net, u)
		if !sameUrl(impl.SureUrl(s, u), u) || i < len(got.Way)-1 && (at < 0 || net[at].Kind != impl.PageMove) {
			t.Fatalf("%q: %q", s.Hosts, got.Way)
		}
	}
}

// silentHolds says that pages that tell no cookies have the same way, and leave the cookies.
func silentHolds(t *testing.T, net []impl.Page, s impl.Sure, jar []impl.Cookie, u impl.Url, now int, told impl.Fetched, code int) {
	t.Helper()
	silent := slices.Clone(net)
	for i := range silent {
		silent[i].Says = nil
	}
	got, k := impl.Fetch(silent, s, jar, u, u, now)
	if k != code || !slices.Equal(got.Way, told.Way) || !sameUrl(got.Url, told.Url) || !slices.Equal(got.Jar, jar) || got.Denied != 0 {
		t.Fatalf("%d by %q with %+v, not %d by %q", k, got.Way, got.Jar, code, told.Way)
	}
}

func TestPromise82FromWhereOneCameNothingMovesOn(t *testing.T) {
	net := netOf(moves(t, "http://a.com/", "b#e"), moves(t, "http://a.com/b", "//x/"), here(t, "https://x/", "s=1"))
	first, code := impl.Fetch(net, sureOf("x"), nil, urlOf(t, "about:blank"), urlOf(t, "http://a.com/#f"), 5)
	if code != impl.FetchFine || len(first.Way) != 3 || impl.UrlPut(first.Url) != "https://x/#e" {
		t.Fatal(code, first)
	}
	for _, s := range []impl.Sure{{}, sureOf("x")} {
		again, code := impl.Fetch(net, s, first.Jar, first.Url, first.Url, 5)
		if code != impl.FetchFine || !slices.Equal(again.Way, []string{"https://x/#e"}) || !sameUrl(again.Url, first.Url) || len(again.Jar) != 1 {
			t.Error(code, again)
		}
	}
}

func TestPromise83PagesThatTellNoCookies(t *testing.T) {
	jar := jarOf(3, 1)
	jar[0].Until = 2
	net := netOf(moves(t, "http://a.com/", "b"), here(t, "http://a.com/b"))
	for text, want := range map[string]int{"http://a.com/": impl.FetchFine, "http://a.com/b": impl.FetchFine, "http://a.com/c": impl.FetchNone} {
		got, code := impl.Fetch(net, impl.Sure{}, jar, urlOf(t, "x:y"), urlOf(t, text), 50)
		if code != want || !slices.Equal(got.Jar, jar) || got.Denied != 0 {
			t.Errorf("%s: %d %+v: what is over stays, too", text, code, got)
		}
	}
	net[1].Says = []string{"bad; domain=com"}
	got, code := impl.Fetch(net, impl.Sure{}, jar, urlOf(t, "x:y"), urlOf(t, "http://a.com/"), 50)
	if code != impl.FetchFine || !slices.Equal(got.Jar, jar) || got.Denied != 1 {
		t.Errorf("%d %+v: what is denied leaves all", code, got)
	}
	net[1].Says = []string{"t=1"}
	got, _ = impl.Fetch(net, impl.Sure{}, jar, urlOf(t, "x:y"), urlOf(t, "http://a.com/"), 50)
	if names(got.Jar) != "b t" || got.Jar[1].Made != 50 {
		t.Errorf("%+v", got)
	}
}

// A page that moves on to itself is gone to until it is too often; each time its cookies come.
func TestWatchAMoveToTheSamePage(t *testing.T) {
	way := func(text string) []string { return slices.Repeat([]string{text}, 6) }
	for _, to := range []string{"", "/", ".", "http://a.com/", "//A.com:80", "x/.."} {
		net := netOf(moves(t, "http://a.com/", to, "s=1", "t; secure"))
		fetches(t, net, sureOf(), "http://a.com/", impl.FetchMany, "s=1", 6, way("http://a.com/")...)
		fetches(t, net, sureOf(), "http://a.com/#f", impl.FetchMany, "s=1", 6, way("http://a.com/#f")...)
	}
	net := netOf(moves(t, "http://a.com/", "#g"))
	fetches(t, net, sureOf(), "http://a.com/", impl.FetchMany, "", 0, append([]string{"http://a.com/"}, way("http://a.com/#g")[1:]...)...)
	to := netOf(moves(t, "http://a.com/", "b"), moves(t, "http://a.com/b", "."))
	fetches(t, to, sureOf(), "http://a.com/", impl.FetchMany, "", 0, "http://a.com/", "http://a.com/b", "http://a.com/", "http://a.com/b", "http://a.com/", "http://a.com/b")
	safe := netOf(moves(t, "https://a.com/", "http://a.com/"))
	fetches(t, safe, sureOf("a.com"), "http://a.com/", impl.FetchMany, "", 0, way("https://a.com/")...)
	up := netOf(moves(t, "http://a.com/", "https://a.com/"), here(t, "https://a.com/"))
	fetches(t, up, sureOf(), "http://a.com/", impl.FetchFine, "", 0, "http://a.com/", "https://a.com/")
}

// The end of an address goes on to where its page moves on, if there is no end there, and as long as that is not too long.
func TestWatchAnEndThatGoesOn(t *testing.T) {
	net := netOf(moves(t, "http://a.com/", "b"), moves(t, "http://a.com/b", "//b.com/?q"), here(t, "http://b.com/?q"),
		moves(t, "http://c.com/", "//b.com/?q#own"), moves(t, "http://d.com/", "//b.com/?q#"), moves(t, "http://e.com/", "//c.com/"))
	fetches(t, net, sureOf(), "http://a.com/#f", impl.FetchFine, "", 0, "http://a.com/#f", "http://a.com/b#f", "http://b.com/?q#f")
	fetches(t, net, sureOf(), "http://a.com/#", impl.FetchFine, "", 0, "http://a.com/#", "http://a.com/b#", "http://b.com/?q#")
	fetches(t, net, sureOf(), "http://a.com/", impl.FetchFine, "", 0, "http://a.com/", "http://a.com/b", "http://b.com/?q")
	fetches(t, net, sureOf(), "http://c.com/#f", impl.FetchFine, "", 0, "http://c.com/#f", "http://b.com/?q#own")
	fetches(t, net, sureOf(), "http://d.com/#f", impl.FetchFine, "", 0, "http://d.com/#f", "http://b.com/?q#")
	fetches(t, net, sureOf(), "http://e.com/#f", impl.FetchFine, "", 0, "http://e.com/#f", "http://c.com/#f", "http://b.com/?q#own")
	fetches(t, net, sureOf("b.com"), "http://a.com/#f", impl.FetchNone, "", 0, "http://a.com/#f", "http://a.com/b#f", "https://b.com/?q#f")
	for size, code := range map[int]int{198: impl.FetchFine, 199: impl.FetchTo, 200: impl.FetchTo} {
		long := longUrl(t, "http://b.com/", size)
		net := netOf(moves(t, "http://a.com/", long), here(t, long))
		way := []string{"http://a.com/#f"}
		if code == impl.FetchFine {
			way = append(way, long+"#f")
		}
		fetches(t, net, sureOf(), "http://a.com/#f", code, "", 0, way...)
		fetches(t, net, sureOf(), "http://a.com/", impl.FetchFine, "", 0, "http://a.com/", long)
	}
}

// Cookies that come with a page that moves on are there from then on, wherever one comes, and count as those of the page that told them.
func TestWatchACookieThatComesWithAMove(t *testing.T) {
	net := netOf(
		moves(t, "http://a.com/x/m", "/y/n#f", "one=1", "two=2; path=/; max-age=9"),
		moves(t, "http://a.com/y/n", "https://b.com/", "two=3; path=/", "no=1; secure"),
		here(t, "https://b.com/", "three=3; secure; samesite=none", "no=1; domain=a.com"),
	)
	got, code := impl.Fetch(net, impl.Sure{}, jarOf(1), urlOf(t, "http://q.com/"), urlOf(t, "http://a.com/x/m"), 5)
	want := []impl.Cookie{
		jarOf(1)[0],
		{Name: "one", Value: "1", Domain: "a.com", Alone: true, Path: "/x", Same: impl.SameLax, Made: 5},
		{Name: "two", Value: "3", Domain: "a.com", Alone: true, Path: "/", Same: impl.SameLax, Made: 5},
		{Name: "three", Value: "3", Domain: "b.com", Alone: true, Path: "/", Safe: true, Made: 5},
	}
	if code != impl.FetchFine || !slices.Equal(got.Jar, want) || got.Denied != 2 {
		t.Errorf("%d %+v", code, got)
	}
	for to, want := range map[string]int{"/none": impl.FetchNone, "about:x": impl.FetchTo, "": impl.FetchMany} {
		net := netOf(moves(t, "http://a.com/", to, "one=1", "no=1; secure"))
		got, code := impl.Fetch(net, impl.Sure{}, nil, urlOf(t, "http://q.com/"), urlOf(t, "http://a.com/"), 5)
		if code != want || impl.JarText(got.Jar) != "one=1" || got.Denied == 0 {
			t.Errorf("%q: %d %+v", to, code, got)
		}
	}
	over := netOf(here(t, "http://a.com/", "one=1", "one=; max-age=0"))
	fetches(t, over, sureOf(), "http://a.com/", impl.FetchFine, "", 0, "http://a.com/")
}

// A page of a host that is only gone to safely is looked for under https alone, at each step of a way.
func TestWatchAPageThatIsOnlyGoneToSafely(t *testing.T) {
	net := netOf(moves(t, "http://a.com/", "no"), here(t, "http://b.a.com/"), moves(t, "http://c.com/", "http://a.com:443/#f"),
		moves(t, "https://a.com/", "http://b.a.com/", "safe=1; secure"), here(t, "https://b.a.com/", "also=1; secure"))
	fetches(t, net, sureOf("a.com"), "http://c.com/", impl.FetchFine, "safe=1; also=1", 0, "http://c.com/", "https://a.com/#f", "https://b.a.com/#f")
	fetches(t, net, sureOf("b.a.com"), "http://a.com/", impl.FetchNone, "", 0, "http://a.com/", "http://a.com/no")
	fetches(t, net, sureOf("b.a.com"), "https://a.com/", impl.FetchFine, "safe=1; also=1", 0, "https://a.com/", "https://b.a.com/")
	fetches(t, net, sureOf(), "https://a.com/", impl.FetchFine, "safe=1", 0, "https://a.com/", "http://b.a.com/")
	fetches(t, net, sureOf("c.com"), "http://c.com/", impl.FetchNone, "", 0, "https://c.com/")
	long := longUrl(t, "http://a.com/", 200)
	fetches(t, netOf(here(t, long, "s=1; secure")), sureOf("a.com"), long, impl.FetchFine, "", 1, long)
}

func TestWhatIsFetchedIsNewMemory(t *testing.T) {
	hosts := append(sureOf("a.com", "c.com").Hosts, "behind", "end")
	kept := slices.Clone(hosts)
	for _, host := range []string{"b.com", "d.com", "a.com", "A"} {
		s, _ := impl.SurePut(impl.Sure{Hosts: hosts[:2]}, host)
		all := s.Hosts[:cap(s.Hosts)]
		for i := range all {
			all[i] = "wiped"
		}
		if !slices.Equal(hosts, kept) {
			t.Fatalf("%q: %q", host, hosts)
		}
	}
	u := urlOf(t, "http://a.com/a/b")
	u.Path = append(u.Path, "behind")[:2]
	for _, s := range []impl.Sure{{}, sureOf("a.com")} {
		got := impl.SureUrl(s, u)
		for i := range got.Path[:cap(got.Path)] {
			got.Path[:cap(got.Path)][i] = "wiped"
		}
		if impl.UrlPut(u) != "http://a.com/a/b" || u.Path[:3][2] != "behind" {
			t.Fatalf("%+v", u)
		}
	}
	net := netOf(here(t, "http://a.com/a/b", "s=1"))
	jar := append(jarOf(1, 2), cookieNamed("behind", 1))
	keptJar := slices.Clone(jar)
	for _, says := range [][]string{nil, {"s=1"}, {"s=1; secure"}} {
		net[0].Says = says
		got, _ := impl.Fetch(net, impl.Sure{}, jar[:2], u, u, 5)
		wipe(got.Jar)
		for i := range got.Url.Path[:cap(got.Url.Path)] {
			got.Url.Path[:cap(got.Url.Path)][i] = "wiped"
		}
		if !slices.Equal(jar, keptJar) || impl.UrlPut(u) != "http://a.com/a/b" || impl.UrlPut(net[0].Url) != "http://a.com/a/b" {
			t.Fatalf("%+v", got)
		}
	}
}
