package tests

import (
	"slices"
	"strconv"
	"strings"
	"testing"

	"loop.example/guilloche/impl"
)

// plain is a cookie that is ok and goes to all within a.com, below its root.
func plain() impl.Cookie {
	return impl.Cookie{Name: "s", Value: "1", Domain: "a.com", Path: "/", Same: impl.SameLax, Made: 5}
}

// changed is the plain cookie, but for a change.
func changed(change func(c *impl.Cookie)) impl.Cookie {
	c := plain()
	change(&c)
	return c
}

// cookieNamed is plain, but of a place of its own.
func cookieNamed(name string, made int) impl.Cookie {
	return changed(func(c *impl.Cookie) { c.Name, c.Made = name, made })
}

// jarOf is cookies a, b .. made at these times.
func jarOf(made ...int) []impl.Cookie {
	var jar []impl.Cookie
	for i, at := range made {
		jar = append(jar, cookieNamed(string([]byte{byte('a' + i)}), at))
	}
	return jar
}

// names is the names of cookies, in order.
func names(jar []impl.Cookie) string {
	words := []string{}
	for _, c := range jar {
		words = append(words, c.Name)
	}
	return strings.Join(words, " ")
}

// takes holds that a text is taken from an address, as a cookie.
func takes(t *testing.T, url string, text string, now int, want impl.Cookie) {
	t.Helper()
	got, code := impl.CookieGet(urlOf(t, url), text, now)
	if got != want || code != impl.JarFine || !impl.CookieOk(got) {
		t.Errorf("%q from %q at %d: %+v %d, not %+v", text, url, now, got, code, want)
	}
}

// takenNot holds that a text is not taken, and why.
func takenNot(t *testing.T, url string, text string, want int) {
	t.Helper()
	got, code := impl.CookieGet(urlOf(t, url), text, 5)
	if got != (impl.Cookie{}) || code != want {
		t.Errorf("%q from %q: %+v %d, not %d", text, url, got, code, want)
	}
}

// wrongCookies are cookies that are not ok, each for one reason alone.
func wrongCookies() map[string]impl.Cookie {
	all := map[string]impl.Cookie{"nothing": {}}
	wrong := func(why string, change func(c *impl.Cookie)) {
		all[why] = changed(change)
	}
	wrong("no name", func(c *impl.Cookie) { c.Name = "" })
	wrong("a long name", func(c *impl.Cookie) { c.Name = strings.Repeat("n", 21) })
	wrong("a long value", func(c *impl.Cookie) { c.Value = strings.Repeat("v", 21) })
	for _, b := range []byte(";,=\" \t\n\x00\x1f\x7f\x80\xff") {
		wrong("a byte "+strconv.Itoa(int(b))+" in a name", func(c *impl.Cookie) { c.Name = "n" + string([]byte{b}) + "n" })
		wrong("a byte "+strconv.Itoa(int(b))+" in a value", func(c *impl.Cookie) { c.Value = string([]byte{b}) })
	}
	for _, domain := range []string{"", ".a.com", "A.com", "a..com", ".", "a b", "a.com:80", strings.Repeat("a", 61), "1.2.3.4", "a.1", "1", "0x7f.1", "[::1]"} {
		wrong("a domain "+domain, func(c *impl.Cookie) { c.Domain = domain })
	}
	for _, domain := range []string{"", ".a.com", "A.com", "1.2.3", "1.2.3.04", "1.2.3.256", "1.2.3.4.", "1.2.3.0x4", "01.2.3.4", "1.2.3.4.5", "16909060"} {
		wrong("alone, a domain "+domain, func(c *impl.Cookie) { c.Domain, c.Alone = domain, true })
	}
	for _, path := range []string{"", "a", "a/", "\\", " /", strings.Repeat("/", 201)} {
		wrong("a path "+path, func(c *impl.Cookie) { c.Path = path })
	}
	wrong("until below 0", func(c *impl.Cookie) { c.Until = -1 })
	wrong("until too late", func(c *impl.Cookie) { c.Until = 2*impl.AgeMax + 2 })
	wrong("made below 0", func(c *impl.Cookie) { c.Made = -1 })
	wrong("made too late", func(c *impl.Cookie) { c.Made = impl.AgeMax + 1 })
	wrong("with nobody", func(c *impl.Cookie) { c.Same = -1 })
	wrong("with others", func(c *impl.Cookie) { c.Same, c.Safe = 3, true })
	wrong("with all, not safe", func(c *impl.Cookie) { c.Same = impl.SameNone })
	wrong("secure, not safe", func(c *impl.Cookie) { c.Name = "__Secure-s" })
	wrong("secure without more, not safe", func(c *impl.Cookie) { c.Name = "__Secure-" })
	wrong("of a host, not safe", func(c *impl.Cookie) { c.Name, c.Alone = "__Host-s", true })
	wrong("of a host, not alone", func(c *impl.Cookie) { c.Name, c.Safe = "__Host-s", true })
	wrong("of a host, of another path", func(c *impl.Cookie) { c.Name, c.Safe, c.Alone, c.Path = "__Host-", true, true, "/a" })
	return all
}

// wrongJars are cookies that are not ok together.
func wrongJars() map[string][]impl.Cookie {
	all := map[string][]impl.Cookie{"too many": jarOf(1, 2, 3, 4, 5, 6, 7, 8, 9, 10, 11)}
	for why, c := range wrongCookies() {
		all[why] = []impl.Cookie{cookieNamed("x", 1), c, cookieNamed("y", 2)}
		all[why+", alone"] = []impl.Cookie{c}
	}
	twice := changed(func(c *impl.Cookie) { c.Value, c.Until, c.Safe, c.Same, c.Made = "2", 9, true, impl.SameStrict, 6 })
	all["one twice"] = []impl.Cookie{plain(), twice}
	all["one twice, apart"] = []impl.Cookie{twice, cookieNamed("x", 1), cookieNamed("y", 1), plain()}
	return all
}

// anyHome is an address of few hosts and paths, so that many are within each other.
func anyHome(m *maker) impl.Url {
	if m.below(40) == 0 {
		return m.pickUrl(append(wrongUrls(), anyUrl(m)))
	}
	text := m.pick([]string{"http", "https", "https", "https"}) + "://" + m.pick([]string{"", "", "u:p@"})
	text += m.pick([]string{"a.com", "a.com", "b.a.com", "c.b.a.com", "ba.com", "com", "a.com.", "1.2.3.4", "x"})
	text += m.pick([]string{"", "", ":81"}) + m.pick([]string{"", "/", "/a", "/a/", "/a/b", "/ab", "/a/b/c", "//", "/a//b"}) + m.pick([]string{"", "", "?q/r", "#f/g"})
	u, _ := impl.UrlGet(text)
	return u
}

func (m *maker) pickUrl(list []impl.Url) impl.Url {
	return list[m.below(len(list))]
}

// anyTime is one of few, most often within what is ok.
func anyTime(m *maker) int {
	return []int{0, 1, 2, 3, 4, 5, 6, 7, 8, 9, 10, 999999, 1000000, 1000001, -1}[m.below(13+m.below(3))]
}

// anyTelling is what an address may tell.
func anyTelling(m *maker) string {
	words := []string{m.pick([]string{"s=1", "s=1", "t", " t = v ", "__Host-s=1", "__Secure-s=2", "=1", "", "a b=1", "n=a=b", "s=\"q\"", m.text(22, "abc =") + "=" + m.text(22, "abc")})}
	for range m.below(5) {
		words = append(words, m.pick([]string{
			"Domain=a.com", "domain=.A.com", "Domain=b.a.com", "DOMAIN = com", "domain=", "domain=1.2.3.4", "domain=a.com.", "domain=..a.com", "domain=.", "domain",
			"Path=/", "path=/", "path=/a", "PATH = /a/ ", "path=a", "path", "path=/a=b",
			"Max-Age=0", "max-age=3", "max-age=0000009", "max-age=1000000", "max-age=1000001", "max-age=00000001", "max-age=-1", "max-age=", "max-age=1 1",
			"Secure", "secure=no", "Secure", "secure", " SECURE ", "\u017fecure",
			"SameSite=None", "samesite=STRICT", "SameSite=Lax", "samesite", "samesite = none",
			"HttpOnly", "", "=", m.text(5, "=; \tx"),
		}))
	}
	return strings.Join(words, m.pick([]string{";", "; ", " ;  "}))
}

// anyCookie is one that is ok.
func anyCookie(m *maker) impl.Cookie {
	c := impl.Cookie{Value: m.text(3, "xyz"), Until: m.below(12), Made: m.below(9), Safe: m.below(3) == 0, Alone: m.below(3) == 0}
	c.Name = m.pick([]string{"s", "t", "u", "v"})
	c.Domain = m.pick([]string{"a.com", "a.com", "b.a.com", "com", "a.com.", "x"})
	c.Path = m.pick([]string{"/", "/", "/a", "/a/", "/a/b", "/b"})
	if m.below(2) == 0 {
		c.Until = 0
	}
	if c.Safe {
		c.Same = m.below(3)
		c.Name = m.pick([]string{"", "", "__Secure-"}) + c.Name
	} else {
		c.Same = 1 + m.below(2)
	}
	if c.Alone && m.below(4) == 0 {
		c.Domain = "1.2.3.4"
	}
	return c
}

// anyJar is cookies that are ok, often as many as there may be.
func anyJar(m *maker) []impl.Cookie {
	var jar []impl.Cookie
	for range m.below(30) {
		c := anyCookie(m)
		there := slices.ContainsFunc(jar, func(x impl.Cookie) bool { return rankTold(x) == rankTold(c) })
		if !there && len(jar) < 10 {
			jar = append(jar, c)
		}
	}
	return jar
}
