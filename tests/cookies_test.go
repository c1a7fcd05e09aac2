package tests

import (
	"math"
	"strings"
	"testing"

	"loop.example/guilloche/impl"
)

func TestLimitsAndCodesOfCookies(t *testing.T) {
	if impl.JarMax != 10 || impl.CrumbMax != 20 || impl.AgeMax != 1000000 {
		t.Error(impl.JarMax, impl.CrumbMax, impl.AgeMax)
	}
	if impl.SameNone != 0 || impl.SameLax != 1 || impl.SameStrict != 2 {
		t.Error(impl.SameNone, impl.SameLax, impl.SameStrict)
	}
	if impl.JarFine != 0 || impl.JarForm != 1 || impl.JarDomain != 2 || impl.JarSecure != 3 || impl.JarPrefix != 4 {
		t.Error(impl.JarFine, impl.JarForm, impl.JarDomain, impl.JarSecure, impl.JarPrefix)
	}
}

func TestPromise65WithinADomain(t *testing.T) {
	for _, c := range []struct {
		host, domain string
		want         bool
	}{
		{"a.com", "a.com", true}, {"b.a.com", "a.com", true}, {"c.b.a.com", "a.com", true}, {"c.b.a.com", "b.a.com", true},
		{"a.com", "com", true}, {"com", "com", true}, {"x", "x", true}, {"a.com.", "com.", true}, {"b.a.com.", "a.com.", true},
		{"a.com", "b.a.com", false}, {"com", "a.com", false}, {"a.com", "b.com", false}, {"a.com.b", "a.com", false},
		{"ba.com", "a.com", false}, {"b-a.com", "a.com", false}, {"a.com", ".com", false}, {"a.com", ".a.com", false}, {"a.com", "A.com", false},
		{"a.com.", "a.com", false}, {"a.com", "a.com.", false}, {"a.com.", "com", false}, {"a.com.", ".", false},
		{"", "", false}, {"a.com", "", false}, {"", "a.com", false}, {"a.com.", "", false}, {".", "", false},
		{"1.2.3.4", "1.2.3.4", true}, {"1.2.3.4", "3.4", false}, {"1.2.3.4", "4", false}, {"a.4", "4", false},
		{"!", "!", true}, {"A.com", "A.com", true}, {"a b", "a b", true}, {"B.a.com", "a.com", false}, {"!.a.com", "a.com", false}, {"..a.com", "a.com", false}, {".a.com", "a.com", false},
		{strings.Repeat("b", 54) + ".a.com", "a.com", true}, {strings.Repeat("b", 55) + ".a.com", "a.com", false},
		{strings.Repeat("b", 61), strings.Repeat("b", 61), true},
	} {
		if got := impl.DomainIn(c.host, c.domain); got != c.want || got != domainInTold(c.host, c.domain) {
			t.Errorf("%q in %q: %v", c.host, c.domain, got)
		}
	}
}

func TestPromise65OneWayAlone(t *testing.T) {
	m := &maker{state: 65}
	within := 0
	for range 4000 {
		host, domain := m.text(6, "ab.-"), m.text(3, "ab.")
		if m.below(2) == 0 {
			host = m.text(3, "ab.1") + m.pick([]string{"", "."}) + domain
		}
		got := impl.DomainIn(host, domain)
		if got != domainInTold(host, domain) {
			t.Fatalf("%q in %q: %v", host, domain, got)
		}
		if host != domain && got {
			within++
			if impl.DomainIn(domain, host) {
				t.Fatalf("%q and %q are within each other", host, domain)
			}
		}
	}
	if within < 100 {
		t.Error(within)
	}
}

func TestPromise66BelowAPath(t *testing.T) {
	for _, c := range []struct {
		path, below string
		want        bool
	}{
		{"/", "/", true}, {"/a", "/", true}, {"/a/b", "/", true}, {"/a", "/a", true}, {"/a/", "/a", true}, {"/a/b", "/a", true}, {"/a/b", "/a/", true}, {"/a/", "/a/", true},
		{"/a", "/a/", false}, {"/", "/a", false}, {"/ab", "/a", false}, {"/a.", "/a", false}, {"/a\\b", "/a", false}, {"/A/b", "/a", false}, {"/b/a", "/a", false},
		{"//", "/", true}, {"//", "//", true}, {"/a//b", "/a/", true}, {"/a//b", "/a//", true}, {"/a/b", "/a//", false},
		{"a", "a", true}, {"a/b", "a", true}, {"ab", "a", false}, {"\xff/\x00", "\xff", true},
		{"", "", false}, {"/", "", false}, {"/a", "", false}, {"", "/", false}, {"", "a", false},
	} {
		if got := impl.PathIn(c.path, c.below); got != c.want || got != pathInTold(c.path, c.below) {
			t.Errorf("%q below %q: %v", c.path, c.below, got)
		}
	}
}

func TestPromise66AtASlashAlone(t *testing.T) {
	m := &maker{state: 66}
	yes, no := 0, 0
	for range 3000 {
		path, below := m.text(8, "ab//"), m.text(4, "ab//")
		if m.below(2) == 0 {
			path = below + path
		}
		got := impl.PathIn(path, below)
		if got != pathInTold(path, below) || got && !strings.HasPrefix(path, below) {
			t.Fatalf("%q below %q: %v", path, below, got)
		}
		if impl.PathIn(path, path) != (path != "") || impl.PathIn(below+"/"+path, below) != (below != "") {
			t.Fatalf("%q, and %q", path, below)
		}
		if got {
			yes++
		} else if strings.HasPrefix(path, below) {
			no++
		}
	}
	if yes < 100 || no < 100 {
		t.Error(yes, no)
	}
}

func TestPromise67ThePathOfAnAddress(t *testing.T) {
	for text, want := range map[string]string{
		"http://a.com": "/", "http://a.com/": "/", "http://a.com/a": "/", "http://a.com/a/": "/a", "http://a.com/a/b": "/a", "http://a.com/a/b/": "/a/b", "https://u@a.com:81/a/b/c": "/a/b",
		"http://a.com/a/b?q/r/s": "/a", "http://a.com/a/b#f/g/h": "/a", "http://a.com?q/r": "/", "http://a.com//": "/", "http://a.com//a": "/", "http://a.com/a//": "/a/", "http://a.com/a//b": "/a/",
		"http://a.com/a/..": "/", "http://a.com/a b/c": "/a%20b", "http://a.com/a%2fb": "/", "http://1.2/x/y": "/x",
		"about:blank": "/", "x:/a/b/c": "/", "file:///a/b": "/",
	} {
		if got := impl.PathOf(urlOf(t, text)); got != want {
			t.Errorf("%q: %q, not %q", text, got, want)
		}
	}
	deep := []string{"a", "b", "c"}
	for _, u := range append(wrongUrls(), impl.Url{Scheme: "http", Host: named("a.com"), Port: 80, Path: deep}, impl.Url{Scheme: "http", Port: -1, Path: deep}, impl.Url{Scheme: "x", Port: -1, Path: deep}) {
		if got := impl.PathOf(u); got != "/" {
			t.Errorf("%+v: %q", u, got)
		}
	}
}

func TestPromise67BelowItsOwnPath(t *testing.T) {
	m := &maker{state: 67}
	deep := 0
	for range 1000 {
		u := anyHome(m)
		if m.below(2) == 0 {
			u = anyPage(m)
		}
		of := impl.PathOf(u)
		if of != pathOfTold(u) {
			t.Fatalf("%+v: %q", u, of)
		}
		if !impl.UrlOk(u) || u.Host.Kind == impl.HostNone {
			continue
		}
		path := impl.PathPut(u.Path)
		if !impl.PathIn(path, of) || len(of) > len(path) || of[0] != '/' {
			t.Fatalf("%q is not below %q", path, of)
		}
		if of != "/" {
			deep++
		}
	}
	if deep < 100 {
		t.Error(deep)
	}
}

func TestPromise68WhichCookiesAreOk(t *testing.T) {
	for why, change := range map[string]func(c *impl.Cookie){
		"plain":             func(c *impl.Cookie) {},
		"no value":          func(c *impl.Cookie) { c.Value = "" },
		"all signs":         func(c *impl.Cookie) { c.Name, c.Value = "!#$%&'()*+-./09:<>?@", "AZ[\\]^_`az{|}~" },
		"one label":         func(c *impl.Cookie) { c.Domain = "com" },
		"a point at last":   func(c *impl.Cookie) { c.Domain = "a.com." },
		"alone":             func(c *impl.Cookie) { c.Alone = true },
		"four bytes":        func(c *impl.Cookie) { c.Domain, c.Alone = "255.0.10.4", true },
		"last four":         func(c *impl.Cookie) { c.Domain, c.Alone = "255.255.255.255", true },
		"any path":          func(c *impl.Cookie) { c.Path = "/\x00;= \xff\\" },
		"with all, safe":    func(c *impl.Cookie) { c.Same, c.Safe = impl.SameNone, true },
		"strict":            func(c *impl.Cookie) { c.Same = impl.SameStrict },
		"strict, safe":      func(c *impl.Cookie) { c.Same, c.Safe = impl.SameStrict, true },
		"secure":            func(c *impl.Cookie) { c.Name, c.Safe = "__Secure-s", true },
		"secure, of a path": func(c *impl.Cookie) { c.Name, c.Safe, c.Path = "__Secure-", true, "/a" },
		"of a host":         func(c *impl.Cookie) { c.Name, c.Safe, c.Alone = "__Host-s", true, true },
		"of a host, bare":   func(c *impl.Cookie) { c.Name, c.Safe, c.Alone = "__Host-", true, true },
		"small letters":     func(c *impl.Cookie) { c.Name, c.Path = "__host-s", "/a" },
		"small, secure":     func(c *impl.Cookie) { c.Name = "__secure-s" },
		"without a dash":    func(c *impl.Cookie) { c.Name = "__Host" },
		"secure, no dash":   func(c *impl.Cookie) { c.Name = "__Secure" },
		"one line ahead":    func(c *impl.Cookie) { c.Name = "_Host-s" },
		"further on":        func(c *impl.Cookie) { c.Name = "a__Secure-s" },
		"over long ago":     func(c *impl.Cookie) { c.Until, c.Made = 1, 9 },
	} {
		if c := changed(change); !impl.CookieOk(c) || !okCookieTold(c) {
			t.Errorf("%s: %+v", why, c)
		}
	}
	for why, c := range wrongCookies() {
		if impl.CookieOk(c) || okCookieTold(c) {
			t.Errorf("%s: %+v", why, c)
		}
	}
}

func TestPromise68EachByteOfACrumb(t *testing.T) {
	for b := range 256 {
		text := string([]byte{byte(b)})
		want := b >= 33 && b <= 126 && !strings.Contains(";,=\"", text)
		for _, c := range []impl.Cookie{
			changed(func(c *impl.Cookie) { c.Name = text }),
			changed(func(c *impl.Cookie) { c.Value = text }),
			changed(func(c *impl.Cookie) { c.Name = "a" + text }),
			changed(func(c *impl.Cookie) { c.Value = text + "a" }),
		} {
			if impl.CookieOk(c) != want {
				t.Errorf("byte %d: %+v", b, c)
			}
		}
	}
}

func TestPromise68EachLimit(t *testing.T) {
	for what, c := range map[string]struct {
		first, last int
		change      func(c *impl.Cookie, n int)
	}{
		"name":   {1, 20, func(c *impl.Cookie, n int) { c.Name = strings.Repeat("n", max(n, 0)) }},
		"value":  {0, 20, func(c *impl.Cookie, n int) { c.Value = strings.Repeat("v", max(n, 0)) }},
		"domain": {1, 60, func(c *impl.Cookie, n int) { c.Domain = strings.Repeat("d", max(n, 0)) }},
		"path":   {1, 200, func(c *impl.Cookie, n int) { c.Path = strings.Repeat("/", max(n, 0)) }},
		"until":  {0, 2000001, func(c *impl.Cookie, n int) { c.Until = n }},
		"made":   {0, 1000000, func(c *impl.Cookie, n int) { c.Made = n }},
		"same":   {1, 2, func(c *impl.Cookie, n int) { c.Same = n }},
		"safe":   {0, 2, func(c *impl.Cookie, n int) { c.Same, c.Safe = n, true }},
	} {
		ok := func(n int) bool { return impl.CookieOk(changed(func(x *impl.Cookie) { c.change(x, n) })) }
		if !ok(c.first) || !ok(c.last) || ok(c.last+1) || c.first > 0 && ok(c.first-1) {
			t.Error(what, ok(c.first), ok(c.last), ok(c.last+1), ok(c.first-1))
		}
	}
	for _, n := range []int{-1, math.MinInt, math.MaxInt} {
		for _, c := range []impl.Cookie{changed(func(c *impl.Cookie) { c.Until = n }), changed(func(c *impl.Cookie) { c.Made = n }), changed(func(c *impl.Cookie) { c.Same, c.Safe = n, true })} {
			if impl.CookieOk(c) {
				t.Errorf("%+v", c)
			}
		}
	}
}

func TestPromise68WhatIsTaken(t *testing.T) {
	bare := impl.Cookie{Name: "s", Value: "1", Domain: "b.a.com", Alone: true, Path: "/x", Same: impl.SameLax, Made: 7}
	for text, change := range map[string]func(c *impl.Cookie){
		"s=1":                                   func(c *impl.Cookie) {},
		"  s  =  1  ":                           func(c *impl.Cookie) {},
		"s=1;;;; ;=;==;=x;HttpOnly;expires=now": func(c *impl.Cookie) {},
		"s":                                     func(c *impl.Cookie) { c.Value = "" },
		"s=":                                    func(c *impl.Cookie) { c.Value = "" },
		"s ; secure":                            func(c *impl.Cookie) { c.Value, c.Safe = "", true },
		"s=1; Domain=a.com":                     func(c *impl.Cookie) { c.Domain, c.Alone = "a.com", false },
		"s=1;DOMAIN= .A.Com ":                   func(c *impl.Cookie) { c.Domain, c.Alone = "a.com", false },
		"s=1; domain=b.a.com":                   func(c *impl.Cookie) { c.Alone = false },
		"s=1; domain=a.com; domain=":            func(c *impl.Cookie) { c.Domain, c.Alone = "a.com", false },
		"s=1; domain; domain=; domain = ":       func(c *impl.Cookie) {},
		"s=1; domain=com; domain=a.com":         func(c *impl.Cookie) { c.Domain, c.Alone = "a.com", false },
		"s=1; Path=/":                           func(c *impl.Cookie) { c.Path = "/" },
		"s=1; path = /a b=c/ ":                  func(c *impl.Cookie) { c.Path = "/a b=c/" },
		"s=1; path=y; path; path=; path=\\y":    func(c *impl.Cookie) {},
		"s=1; path=/y; path=z":                  func(c *impl.Cookie) { c.Path = "/y" },
		"s=1; path=/y; PATH=/z":                 func(c *impl.Cookie) { c.Path = "/z" },
		"s=1; path=\t/":                         func(c *impl.Cookie) {},
		"s=1; Max-Age=0":                        func(c *impl.Cookie) { c.Until = 8 },
		"s=1; max-age=9":                        func(c *impl.Cookie) { c.Until = 17 },
		"s=1; max-age=0000009":                  func(c *impl.Cookie) { c.Until = 17 },
		"s=1; max-age=1000000":                  func(c *impl.Cookie) { c.Until = 1000008 },
		"s=1; max-age=9; max-age=-1":            func(c *impl.Cookie) { c.Until = 17 },
		"s=1; max-age=9; max-age=3":             func(c *impl.Cookie) { c.Until = 11 },
		"s=1; max-age=1000001":                  func(c *impl.Cookie) {},
		"s=1; max-age=9999999":                  func(c *impl.Cookie) {},
		"s=1; max-age=00000009":                 func(c *impl.Cookie) {},
		"s=1; max-age=18446744073709551617":     func(c *impl.Cookie) {},
		"s=1; max-age=; max-age=+1; max-age":    func(c *impl.Cookie) {},
		"s=1; max-age=1 0; max-age=1.; age=3":   func(c *impl.Cookie) {},
		"s=1; Secure":                           func(c *impl.Cookie) { c.Safe = true },
		"s=1; SECURE = no":                      func(c *impl.Cookie) { c.Safe = true },
		"s=1; \u017fecure; sec ure; secure\t":   func(c *impl.Cookie) {},
		"s=1; SameSite=Strict":                  func(c *impl.Cookie) { c.Same = impl.SameStrict },
		"s=1; samesite=strict; samesite=LAX":    func(c *impl.Cookie) { c.Same = impl.SameStrict },
		"s=1; samesite=lax; samesite":           func(c *impl.Cookie) {},
		"s=1; secure; SAMESITE = NONE ":         func(c *impl.Cookie) { c.Same, c.Safe = impl.SameNone, true },
		"s=1; samesite=none; samesite=strict":   func(c *impl.Cookie) { c.Same = impl.SameStrict },
		"__Host-s=1; Path=/; Secure":            func(c *impl.Cookie) { c.Name, c.Path, c.Safe = "__Host-s", "/", true },
		"__Secure-s=1; Secure":                  func(c *impl.Cookie) { c.Name, c.Safe = "__Secure-s", true },
		"domain=a.com; path=/z":                 func(c *impl.Cookie) { c.Name, c.Value, c.Path = "domain", "a.com", "/z" },
	} {
		want := bare
		change(&want)
		takes(t, "https://u:p@B.a.com:444/x/y?q#f", text, 7, want)
	}
	takes(t, "http://1.2/", "s=1", 0, impl.Cookie{Name: "s", Value: "1", Domain: "1.0.0.2", Alone: true, Path: "/", Same: impl.SameLax})
	takes(t, "http://x/", "s=1", 0, impl.Cookie{Name: "s", Value: "1", Domain: "x", Alone: true, Path: "/", Same: impl.SameLax})
	takes(t, "http://a.com./", "s=1;domain=a.com.", 0, impl.Cookie{Name: "s", Value: "1", Domain: "a.com.", Path: "/", Same: impl.SameLax})
}

func TestPromise68WhatIsNotTaken(t *testing.T) {
	for text, want := range map[string]int{
		"": 1, "=": 1, "=1": 1, " =1": 1, ";s=1": 1, "; Secure": 1, "a b=1": 1, "s=a b": 1, "s=a=b": 1, "s=\"1\"": 1, "s=a,b": 1, "\ts=1": 1, "s=\t1": 1, "s=\xff": 1, "s\x7f": 1,
		"s=1; domain=.": 2, "s=1; domain=com": 2, "s=1; domain=com.": 2, "s=1; domain=..a.com": 2, "s=1; domain=b.com": 2, "s=1; domain=ba.com": 2, "s=1; domain=c.a.com": 2, "s=1; domain=a.com.": 2, "s=1; domain=a.com:80": 2, "s=1; domain=a%2ecom": 2, "s=1; domain=com; path=/": 2,
		"s=1; Secure": 3, "s=1; samesite=none": 3, "s=1; samesite=none; samesite=lax": 3, "__Host-s=1; path=/; secure": 3, "s=1; secure; samesite=none": 3,
		"__Host-s=1": 4, "__Secure-s=1": 4, "__Secure-": 4,
	} {
		takenNot(t, "http://a.com/", text, want)
	}
	for text, want := range map[string]int{
		"s=1; samesite=none": 3, "s=1; samesite=strict; samesite=none": 3,
		"__Host-s=1; secure": 4, "__Host-s=1; path=/": 4, "__Host-s=1; path=/; secure; domain=a.com": 4, "__Host-; path=/x/; secure": 4, "__Secure-s=1": 4,
	} {
		takenNot(t, "https://a.com/x/y", text, want)
	}
	takenNot(t, "http://1.2.3.4/", "s=1; domain=1.2.3.4", 1)
	takenNot(t, "http://1.2.3.4/", "s=1; domain=3.4", 2)
	takenNot(t, "http://127.0.0.1/", "s=1; domain=0x7f.1", 2)
	takenNot(t, "http://x/", "s=1; domain=x", 2)
	for _, text := range []string{"about:blank", "x://a.com/", "data:a.com"} {
		takenNot(t, text, "s=1", 1)
	}
	for _, u := range wrongUrls() {
		if c, code := impl.CookieGet(u, "s=1", 5); c != (impl.Cookie{}) || code != 1 {
			t.Errorf("%+v: %+v %d", u, c, code)
		}
	}
}

func TestPromise68TheFirstOfSeveralCodes(t *testing.T) {
	for _, c := range []struct {
		url, text string
		want      int
	}{
		{"http://a.com/", "__Host- s=1; domain=com; secure; samesite=none", 1},
		{"http://a.com/", "__Host-s=1; domain=com; secure; samesite=none", 2},
		{"http://a.com/", "__Host-s=1; domain=a.com; secure", 3},
		{"http://a.com/x/y", "__Host-s=1; samesite=none", 3},
		{"https://a.com/", "__Host-s=1; samesite=none", 3},
		{"https://a.com/", "__Host-s=1; domain=a.com; secure", 4},
		{"https://1.2.3.4/", "__Host-s=1; domain=1.2.3.4; secure", 4},
		{"http://1.2.3.4/", "s=1; domain=1.2.3.4; secure", 3},
		{"http://1.2.3.4/", "s=1; domain=1.2.3.4", 1},
	} {
		takenNot(t, c.url, c.text, c.want)
	}
}

func TestPromise68LimitsOfWhatIsTaken(t *testing.T) {
	u := urlOf(t, "https://a.com/")
	for now, want := range map[int]int{0: 0, 1: 0, 999999: 0, 1000000: 0, 1000001: 1, -1: 1, math.MinInt: 1, math.MaxInt: 1} {
		c, code := impl.CookieGet(u, "s=1; max-age=1000000", now)
		if code != want || code == 0 && (c.Made != now || c.Until != now+1000001) {
			t.Errorf("at %d: %+v %d", now, c, code)
		}
	}
	for size, want := range map[int]int{199: 0, 200: 0, 201: 1, 100000: 1} {
		for _, text := range []string{"s=1" + strings.Repeat(";", size-3), strings.Repeat(" ", size-3) + "s=1", "s=1;path=/" + strings.Repeat("x", size-10)} {
			if _, code := impl.CookieGet(u, text, 5); code != want {
				t.Errorf("%d bytes: %d", len(text), code)
			}
		}
	}
	for size, want := range map[int]int{1: 0, 19: 0, 20: 0, 21: 1} {
		crumb := strings.Repeat("x", size)
		for _, text := range []string{crumb + "=1", "s=" + crumb, crumb + "=" + crumb, "  " + crumb + "  "} {
			if _, code := impl.CookieGet(u, text, 5); code != want {
				t.Errorf("%q: %d", text, code)
			}
		}
	}
	long := "https://a.com/" + strings.Repeat("x", 185) + "/"
	c, code := impl.CookieGet(urlOf(t, long), "s=1", 5)
	if code != 0 || len(c.Path) != 186 || !impl.CookieOk(c) {
		t.Errorf("%+v %d", c, code)
	}
}

func TestPromise68BackToWhereItCameFrom(t *testing.T) {
	m := &maker{state: 68}
	taken, back, codes := 0, 0, map[int]int{}
	for range 6000 {
		u, text, now := anyHome(m), anyTelling(m), anyTime(m)
		c, code := impl.CookieGet(u, text, now)
		want, wantCode := getTold(u, text, now)
		if c != want || code != wantCode {
			t.Fatalf("%q from %q at %d: %+v %d, not %+v %d", text, impl.UrlPut(u), now, c, code, want, wantCode)
		}
		codes[code]++
		if code != impl.JarFine {
			continue
		}
		taken++
		if !impl.CookieOk(c) {
			t.Fatalf("%q from %q: %+v", text, impl.UrlPut(u), c)
		}
		over := c.Until != 0 && c.Until <= now+1
		if !over && c.Path == impl.PathOf(u) {
			back++
			if !impl.CookieGoes(c, u, true, m.below(2) == 0, now) {
				t.Fatalf("%+v does not go back to %q", c, impl.UrlPut(u))
			}
		}
	}
	if taken < 500 || back < 300 {
		t.Error(taken, back)
	}
	for code := range 5 {
		if codes[code] < 40 {
			t.Error(codes)
		}
	}
}

func TestPromise69NotForOthers(t *testing.T) {
	m := &maker{state: 69}
	wide, alone, safe := 0, 0, 0
	for range 15000 {
		u := anyHome(m)
		c, code := impl.CookieGet(u, anyTelling(m), 5)
		if code != impl.JarFine {
			continue
		}
		host := impl.HostPut(u.Host)
		if !impl.DomainIn(host, c.Domain) || c.Alone && c.Domain != host || !c.Alone && !strings.Contains(c.Domain, ".") {
			t.Fatalf("%+v from %q", c, host)
		}
		if c.Safe && u.Scheme != "https" {
			t.Fatalf("%+v from %q", c, impl.UrlPut(u))
		}
		if c.Safe {
			safe++
		}
		if c.Alone {
			alone++
		} else {
			wide++
		}
	}
	if wide < 100 || alone < 100 || safe < 100 {
		t.Error(wide, alone, safe)
	}
}

func TestPromise70WhereACookieGoes(t *testing.T) {
	for _, c := range []struct {
		change func(c *impl.Cookie)
		yes    string
		no     string
	}{
		{func(c *impl.Cookie) {}, "http://a.com/ https://a.com:81/x?q#f http://u:p@b.a.com/ http://c.b.a.com/y/z", "http://ba.com/ http://com/ http://a.com./ http://1.2.3.4/ about:blank x://a.com/"},
		{func(c *impl.Cookie) { c.Safe = true }, "https://a.com/ https://b.a.com/", "http://a.com/ http://a.com:443/"},
		{func(c *impl.Cookie) { c.Alone = true }, "http://a.com/ https://a.com/x http://a.com:81/", "http://b.a.com/ http://com/ http://ba.com/ http://a.com./"},
		{func(c *impl.Cookie) { c.Alone, c.Domain = true, "1.0.0.2" }, "http://1.0.0.2/ http://1.2/", "http://2.1.0.0/ http://a.com/"},
		{func(c *impl.Cookie) { c.Path = "/a" }, "http://a.com/a http://a.com/a/ http://a.com/a/b http://a.com/a?x", "http://a.com/ http://a.com/ab http://a.com/A http://a.com/b/a http://a.com/?/a http://a.com/a%2fb"},
		{func(c *impl.Cookie) { c.Path = "/a/" }, "http://a.com/a/ http://a.com/a/b", "http://a.com/a http://a.com/ http://a.com/ab/"},
		{func(c *impl.Cookie) { c.Domain = "com" }, "http://com/ http://a.com/ http://ba.com/", "http://a.com./ http://x/"},
	} {
		x := changed(c.change)
		for _, text := range strings.Fields(c.yes) {
			if !impl.CookieGoes(x, urlOf(t, text), true, false, 5) {
				t.Errorf("%+v does not go to %q", x, text)
			}
		}
		for _, text := range strings.Fields(c.no) {
			if impl.CookieGoes(x, urlOf(t, text), true, true, 5) {
				t.Errorf("%+v goes to %q", x, text)
			}
		}
	}
	for _, u := range wrongUrls() {
		if impl.CookieGoes(plain(), u, true, true, 5) {
			t.Errorf("%+v", u)
		}
	}
	for why, c := range wrongCookies() {
		for _, text := range []string{"https://a.com/", "https://a.com/a", "https://1.2.3.4/"} {
			if impl.CookieGoes(c, urlOf(t, text), true, true, -5) {
				t.Error(why, text)
			}
		}
	}
}

func TestPromise70WithWhomACookieGoes(t *testing.T) {
	u := urlOf(t, "https://a.com/")
	for same, want := range map[int][4]bool{
		impl.SameNone:   {true, true, true, true},
		impl.SameLax:    {false, true, true, true},
		impl.SameStrict: {false, false, true, true},
	} {
		c := changed(func(c *impl.Cookie) { c.Same, c.Safe = same, true })
		got := [4]bool{impl.CookieGoes(c, u, false, false, 5), impl.CookieGoes(c, u, false, true, 5), impl.CookieGoes(c, u, true, false, 5), impl.CookieGoes(c, u, true, true, 5)}
		if got != want {
			t.Errorf("%d: %v", same, got)
		}
	}
}

func TestPromise70OfMadeCookies(t *testing.T) {
	m := &maker{state: 70}
	goes, stays := 0, 0
	for range 6000 {
		c, u, within, own, now := anyCookie(m), anyHome(m), m.below(3) > 0, m.below(2) == 0, anyTime(m)
		if m.below(2) == 0 {
			now = m.below(4)
		}
		got := impl.CookieGoes(c, u, within, own, now)
		if got != goesTold(c, u, within, own, now) {
			t.Fatalf("%+v to %q, %v %v at %d: %v", c, impl.UrlPut(u), within, own, now, got)
		}
		if !got {
			stays++
			continue
		}
		goes++
		host := impl.HostPut(u.Host)
		if c.Safe && u.Scheme != "https" || c.Alone && host != c.Domain || c.Same == impl.SameStrict && !within {
			t.Fatalf("%+v goes to %q", c, impl.UrlPut(u))
		}
		if !impl.CookieGoes(c, u, true, own, now) || !impl.CookieGoes(c, u, true, true, now) {
			t.Fatalf("%+v does not go to %q within", c, impl.UrlPut(u))
		}
	}
	if goes < 300 || stays < 300 {
		t.Error(goes, stays)
	}
}

// The end of names alone is of many owners: nobody tells cookies for all of them.
func TestWatchTheEndOfNamesAlone(t *testing.T) {
	for _, host := range []string{"a.com", "b.a.com", "com", "c.b.a.com"} {
		for _, domain := range []string{"com", ".com", "COM", "com.", ".com.", "om", "."} {
			takenNot(t, "http://"+host+"/", "s=1; Domain="+domain, impl.JarDomain)
		}
	}
	for _, domain := range []string{"com.", ".com.", "com", "."} {
		takenNot(t, "http://a.com./", "s=1; domain="+domain, impl.JarDomain)
		takenNot(t, "http://com./", "s=1; domain="+domain, impl.JarDomain)
	}
	takes(t, "http://a.com./", "s=1; domain=.a.com.", 5, changed(func(c *impl.Cookie) { c.Domain = "a.com." }))
	takes(t, "http://com/", "s=1", 5, changed(func(c *impl.Cookie) { c.Domain, c.Alone = "com", true }))
	takes(t, "http://com./", "s=1; domain=", 5, changed(func(c *impl.Cookie) { c.Domain, c.Alone = "com.", true }))
	takes(t, "http://a.com/", "s=1; domain=a.com", 5, plain())
	jar, code := impl.JarSet(jarOf(1), urlOf(t, "https://b.a.com/"), "s=1; domain=com", 5)
	if code != impl.JarDomain || names(jar) != "a" {
		t.Error(jar, code)
	}
}

// A path that only begins alike is not below another one.
func TestWatchAPathThatOnlyBeginsAlike(t *testing.T) {
	c := changed(func(c *impl.Cookie) { c.Path = "/shop" })
	for text, want := range map[string]bool{
		"/shop": true, "/shop/": true, "/shop/x": true, "/shop?x": true, "/shop#x": true, "/shop//": true,
		"/shopping": false, "/shop.html": false, "/shop-x/": false, "/shop%2fx": false, "/sho": false, "/": false, "/x/shop": false, "/shop;x": false, "/Shop": false,
	} {
		u := urlOf(t, "http://a.com"+text)
		if impl.CookieGoes(c, u, true, true, 5) != want || impl.PathIn(impl.PathPut(u.Path), "/shop") != want {
			t.Error(text)
		}
		if len(impl.JarFor([]impl.Cookie{c}, u, true, true, 5)) != 0 != want {
			t.Error("for", text)
		}
	}
}

// A cookie that is told to last no time is over at once: it takes the one of its place with it, and never goes.
func TestWatchOverAtOnce(t *testing.T) {
	u := urlOf(t, "http://a.com/")
	for _, now := range []int{0, 1, 5, 999999, 1000000} {
		c, code := impl.CookieGet(u, "s=1; max-age=0", now)
		if code != impl.JarFine || c.Until != now+1 || !impl.CookieOk(c) {
			t.Errorf("at %d: %+v %d", now, c, code)
		}
		if impl.CookieGoes(c, u, true, true, now) || !impl.CookieGoes(c, u, true, true, now-1) {
			t.Errorf("at %d it goes", now)
		}
		next, _ := impl.CookieGet(u, "s=1; max-age=1", now)
		if !impl.CookieGoes(next, u, true, true, now) || impl.CookieGoes(next, u, true, true, now+1) {
			t.Errorf("at %d one that lasts for one", now)
		}
		jar, code := impl.JarSet(nil, u, "s=1", now)
		jar, other := impl.JarSet(jar, u, "t=2", now)
		if code != 0 || other != 0 || names(jar) != "s t" {
			t.Fatalf("%+v", jar)
		}
		if jar, code = impl.JarSet(jar, u, "s=; max-age=0", now); code != 0 || names(jar) != "t" {
			t.Errorf("at %d: %+v %d", now, jar, code)
		}
		if jar, code = impl.JarSet(jar, u, "new=; max-age=0", now); code != 0 || names(jar) != "t" {
			t.Errorf("at %d: %+v %d", now, jar, code)
		}
	}
	for until, over := range map[int][]int{1: {0, 1, 9}, 9: {8, 9, 10, math.MaxInt}, 2000001: {2000000, 2000001, math.MaxInt}} {
		c := changed(func(c *impl.Cookie) { c.Until = until })
		for _, now := range over {
			if impl.CookieGoes(c, u, true, true, now) || len(impl.JarClean([]impl.Cookie{c}, now, false)) != 0 {
				t.Errorf("until %d, at %d", until, now)
			}
		}
		for _, now := range []int{math.MinInt, -1, until - 2} {
			if !impl.CookieGoes(c, u, true, true, now) || len(impl.JarClean([]impl.Cookie{c}, now, true)) != 1 {
				t.Errorf("until %d, at %d", until, now)
			}
		}
	}
	for _, now := range []int{math.MinInt, -1, 0, 5, math.MaxInt} {
		if !impl.CookieGoes(plain(), u, true, true, now) {
			t.Errorf("one that stays to the end, at %d", now)
		}
	}
}
