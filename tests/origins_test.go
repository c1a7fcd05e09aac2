package tests

import (
	"fmt"
	"slices"
	"strings"
	"testing"

	"loop.example/guilloche/impl"
)

// anyNear is an address of few hosts, schemes and ports, so that many are of one origin.
func anyNear(m *maker) impl.Url {
	if m.below(12) == 0 {
		return anyUrl(m)
	}
	text := m.pick([]string{"http", "http", "https"}) + "://" + m.pick([]string{"", "", "u@", "u:p@"})
	text += m.pick([]string{"a.com", "a.com", "a.com", "b.a.com", "a.com.", "1.2.3.4"})
	text += m.pick([]string{"", "", ":80", ":443", ":81"}) + m.pick([]string{"", "/a", "/b/c?q", "#f"})
	u, _ := impl.UrlGet(text)
	return u
}

// wrongUrls are addresses that are not ok.
func wrongUrls() []impl.Url {
	return []impl.Url{
		{}, {Scheme: "http"}, {Scheme: "x"},
		{Scheme: "http", Host: named("a.com"), Port: -1},
		{Scheme: "http", Host: named("a.com"), Port: 80, Path: []string{""}},
		{Scheme: "http", Host: named("A.com"), Port: -1, Path: []string{""}},
		{Scheme: "http", Host: named("a.com"), Port: -1, Path: []string{"a b"}},
		{Scheme: "http", Host: named("a.com"), Port: -1, Path: []string{""}, Frag: "f"},
	}
}

func TestPromise21TheOriginOfAnAddress(t *testing.T) {
	for text, want := range map[string]impl.Origin{
		"http://a.com":                {Scheme: "http", Host: named("a.com"), Port: 80},
		"HTTPS://u:p@A.com/a/b?q#f":   {Scheme: "https", Host: named("a.com"), Port: 443},
		"http://a.com:443/":           {Scheme: "http", Host: named("a.com"), Port: 443},
		"https://0x7f.1:0/":           {Scheme: "https", Host: numbered(0x7f000001), Port: 0},
		"http://a.com.:65535/":        {Scheme: "http", Host: named("a.com."), Port: 65535},
		"about:blank":                 {},
		"x://a.com:80/":               {},
		"data:http://a.com/?http:#80": {},
	} {
		if got := impl.OriginOf(urlOf(t, text)); got != want {
			t.Errorf("%q: %v, not %v", text, got, want)
		}
	}
	for _, u := range wrongUrls() {
		if got := impl.OriginOf(u); got != (impl.Origin{}) {
			t.Errorf("%+v: %v", u, got)
		}
	}
}

func TestPromise21BothWaysAndOnToAThird(t *testing.T) {
	m := &maker{state: 21}
	yes, no, third := 0, 0, 0
	for range 6000 {
		a, b, c := anyNear(m), anyNear(m), anyNear(m)
		same := a.Host != (impl.Host{}) && a.Scheme == b.Scheme && a.Host == b.Host && impl.PortOf(a) == impl.PortOf(b)
		if impl.OriginSame(a, b) != same || impl.OriginSame(b, a) != same {
			t.Fatalf("%q and %q: %v", impl.UrlPut(a), impl.UrlPut(b), !same)
		}
		if same {
			yes++
		} else {
			no++
		}
		if same && impl.OriginSame(b, c) {
			third++
			if !impl.OriginSame(a, c) {
				t.Fatalf("%q, %q and %q", impl.UrlPut(a), impl.UrlPut(b), impl.UrlPut(c))
			}
		}
	}
	if yes < 200 || no < 500 || third < 20 {
		t.Error(yes, no, third)
	}
}

func TestPromise21EachPartCounts(t *testing.T) {
	for _, c := range []struct {
		a, b string
		want bool
	}{
		{"http://a.com", "http://a.com", true},
		{"http://a.com/a?q#f", "http://u:p@A.com:80/b", true},
		{"https://a.com", "https://a.com:443", true},
		{"http://1.2", "http://1.0.0.2/x", true},
		{"http://a.com", "https://a.com", false},
		{"http://a.com:81", "https://a.com:81", false},
		{"http://a.com:443", "https://a.com", false},
		{"http://a.com", "http://b.com", false},
		{"http://a.com", "http://a.com.", false},
		{"http://a.com", "http://b.a.com", false},
		{"http://a.com", "http://a.com:81", false},
		{"http://a.com:0", "http://a.com", false},
		{"about:blank", "about:blank", false},
		{"x://a.com/", "x://a.com/", false},
		{"http://a.com", "about:blank", false},
	} {
		a, b := urlOf(t, c.a), urlOf(t, c.b)
		if impl.OriginSame(a, b) != c.want || impl.OriginSame(b, a) != c.want {
			t.Errorf("%q and %q: %v", c.a, c.b, !c.want)
		}
	}
}

func TestPromise22OneOriginIsOneSite(t *testing.T) {
	m := &maker{state: 22}
	yes, no := 0, 0
	for range 6000 {
		a, b := anyNear(m), anyNear(m)
		same := a.Host != (impl.Host{}) && a.Scheme == b.Scheme && impl.HostSite(a.Host) == impl.HostSite(b.Host)
		if impl.SiteSame(a, b) != same || impl.SiteSame(b, a) != same {
			t.Fatalf("%q and %q: %v", impl.UrlPut(a), impl.UrlPut(b), !same)
		}
		if impl.OriginSame(a, b) && !same {
			t.Fatalf("%q and %q are of one origin", impl.UrlPut(a), impl.UrlPut(b))
		}
		other := b
		other.Port = []int{-1, 0, 81, 65535}[m.below(4)]
		if impl.UrlOk(other) && impl.SiteSame(a, other) != same {
			t.Fatalf("%q and %q: by the port", impl.UrlPut(a), impl.UrlPut(other))
		}
		if same {
			yes++
		} else {
			no++
		}
	}
	if yes < 500 || no < 500 {
		t.Error(yes, no)
	}
}

func TestPromise22WhatIsOfOneSite(t *testing.T) {
	for _, c := range []struct {
		a, b string
		want bool
	}{
		{"http://a.com", "http://a.com", true},
		{"http://a.com", "http://u@b.a.com:81/c?q#f", true},
		{"http://c.b.a.com", "http://d.a.com.", true},
		{"http://com", "http://com.", true},
		{"http://1.2.3.4:1", "http://1.2.3.4:2", true},
		{"http://a.com", "https://a.com", false},
		{"http://a.com", "http://b.com", false},
		{"http://a.com", "http://com", false},
		{"http://1.2.3.4", "http://2.2.3.4", false},
		{"about:blank", "about:blank", false},
		{"x://a.com/", "x://a.com/", false},
		{"http://a.com", "about:blank", false},
	} {
		a, b := urlOf(t, c.a), urlOf(t, c.b)
		if impl.SiteSame(a, b) != c.want || impl.SiteSame(b, a) != c.want {
			t.Errorf("%q and %q: %v", c.a, c.b, !c.want)
		}
	}
}

func TestPromises21And22OfWhatIsNotOk(t *testing.T) {
	page := urlOf(t, "http://a.com/")
	for _, u := range wrongUrls() {
		for _, pair := range [][2]impl.Url{{u, page}, {page, u}, {u, u}} {
			if impl.OriginSame(pair[0], pair[1]) || impl.SiteSame(pair[0], pair[1]) {
				t.Errorf("%+v", pair)
			}
		}
	}
}

func TestPromise23AnOriginIsReadAsAnAddressOfIt(t *testing.T) {
	m := &maker{state: 23}
	for range 5000 {
		u := anyBase(m)
		origin := impl.OriginOf(u)
		text := impl.OriginPut(origin)
		if u.Host == (impl.Host{}) {
			sameText(t, impl.UrlPut(u), text, "null")
			continue
		}
		back := urlOf(t, text)
		if impl.OriginOf(back) != origin || !impl.OriginSame(back, u) || !impl.OriginSame(u, back) {
			t.Fatalf("%q: %q", impl.UrlPut(u), text)
		}
		sameText(t, "again", impl.OriginPut(impl.OriginOf(back)), text)
		sameText(t, "printed", fmt.Sprint(origin), text)
	}
}

func TestPromise23WhatIsWritten(t *testing.T) {
	for text, want := range map[string]string{
		"http://a.com":             "http://a.com",
		"http://u:p@A.com:80/a?q":  "http://a.com",
		"https://a.com/":           "https://a.com",
		"https://a.com:80":         "https://a.com:80",
		"http://a.com:443":         "http://a.com:443",
		"http://a.com.:0":          "http://a.com.:0",
		"https://127.1:65535/a#f":  "https://127.0.0.1:65535",
		"about:blank":              "null",
		"x://a.com":                "null",
		"javascript:http://a.com/": "null",
	} {
		sameText(t, text, impl.OriginPut(impl.OriginOf(urlOf(t, text))), want)
	}
}

func TestPromise23LimitsAndWrongOrigins(t *testing.T) {
	host := named("a.com")
	for _, c := range []struct {
		scheme string
		host   impl.Host
		port   int
		want   string
	}{
		{"", impl.Host{}, 0, "null"},
		{"", host, 80, "null"},
		{"http", host, 0, "http://a.com:0"},
		{"http", host, 80, "http://a.com"},
		{"http", host, 443, "http://a.com:443"},
		{"https", host, 443, "https://a.com"},
		{"https", host, 80, "https://a.com:80"},
		{"http", host, -1, "null"},
		{"http", host, -80, "null"},
		{"http", host, 65535, "http://a.com:65535"},
		{"http", host, 65536, "null"},
		{"http", host, 65536 + 80, "null"},
		{"http", host, 1 << 40, "null"},
		{"HTTP", host, 80, "null"},
		{"http:", host, 80, "null"},
		{"ftp", host, 21, "null"},
		{"about", impl.Host{}, -1, "null"},
		{"about", impl.Host{}, 0, "null"},
		{"http", impl.Host{}, 80, "http://"},
		{"http", named("A.com"), 80, "null"},
		{"http", named("1.2"), 80, "null"},
		{"http", named(""), 80, "null"},
		{"http", named("a..b"), 80, "null"},
		{"http", numbered(0), 80, "http://0.0.0.0"},
		{"http", numbered(-1), 80, "null"},
		{"https", numbered(fourMax), 1, "https://255.255.255.255:1"},
		{"https", numbered(fourMax + 1), 1, "null"},
		{"http", impl.Host{Kind: 3}, 80, "null"},
		{"http", named(strings.Repeat("a", 60)), 80, "http://" + strings.Repeat("a", 60)},
		{"http", named(strings.Repeat("a", 61)), 80, "null"},
	} {
		origin := impl.Origin{Scheme: c.scheme, Host: c.host, Port: c.port}
		sameText(t, fmt.Sprintf("%#v", origin), impl.OriginPut(origin), c.want)
		sameText(t, "printed", origin.String(), c.want)
	}
}

func TestPromise23AnOriginIsTheKeyOfAMap(t *testing.T) {
	count := map[impl.Origin]int{}
	for _, text := range []string{"http://a.com", "http://A.com:80/b", "https://a.com", "http://a.com:443", "about:blank", "x:y"} {
		count[impl.OriginOf(urlOf(t, text))]++
	}
	if len(count) != 4 || count[impl.OriginOf(urlOf(t, "http://a.com/#f"))] != 2 || count[impl.Origin{}] != 2 {
		t.Error(count)
	}
}

func TestOriginsChangeNoArgument(t *testing.T) {
	a, b := urlOf(t, "http://x/a/b"), urlOf(t, "http://x/c/d")
	room := append(slices.Clone(a.Path), "behind", "the end")
	kept := slices.Clone(room)
	a.Path = room[:2]
	impl.OriginOf(a)
	impl.OriginSame(a, b)
	impl.SiteSame(b, a)
	if !slices.Equal(room, kept) {
		t.Errorf("%q, not %q", room, kept)
	}
}
