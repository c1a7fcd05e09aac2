package tests

import (
	"slices"
	"strconv"
	"strings"
	"testing"

	"loop.example/guilloche/impl"
)

// What follows tells chapter 8 a second time, by what is written of addresses, and makes pages to hold the program against it.

// bareTold is what is written of an address, cut off ahead of its end.
func bareTold(u impl.Url) string {
	bare, _, _ := strings.Cut(impl.UrlPut(u), "#")
	return bare
}

func hostedTold(u impl.Url) bool {
	return impl.UrlOk(u) && u.Host != (impl.Host{})
}

func pageTold(p impl.Page) bool {
	here, move := p.Kind == 1 && p.To == "", p.Kind == 2 && len(p.To) <= 200
	for _, text := range p.Says {
		if len(text) > 200 {
			return false
		}
	}
	return hostedTold(p.Url) && !p.Url.HasFrag && (here || move) && len(p.Says) <= 2
}

func netTold(net []impl.Page) bool {
	bares := []string{}
	for _, p := range net {
		if !pageTold(p) {
			return false
		}
		bares = append(bares, bareTold(p.Url))
	}
	return len(net) <= 10 && ascendTold(bares)
}

func ascendTold(texts []string) bool {
	once := map[string]bool{}
	for _, text := range texts {
		once[text] = true
	}
	return len(once) == len(texts) && slices.IsSorted(texts)
}

func netAtTold(net []impl.Page, u impl.Url) int {
	if !netTold(net) || !impl.UrlOk(u) {
		return -1
	}
	return slices.IndexFunc(net, func(p impl.Page) bool { return bareTold(p.Url) == bareTold(u) })
}

func sureTold(s impl.Sure) bool {
	for _, host := range s.Hosts {
		if !hostNameTold(host) {
			return false
		}
	}
	return len(s.Hosts) <= 6 && ascendTold(s.Hosts)
}

func surePutTold(s impl.Sure, host string) (impl.Sure, bool) {
	if !sureTold(s) {
		return impl.Sure{}, false
	}
	if slices.Contains(s.Hosts, host) {
		return s, true
	}
	if !hostNameTold(host) || len(s.Hosts) == 6 {
		return s, false
	}
	hosts := append(slices.Clone(s.Hosts), host)
	slices.Sort(hosts)
	return impl.Sure{Hosts: hosts}, true
}

// sureUrlTold reads again what is written, with a letter more, and with the port of that scheme left out by the reader.
func sureUrlTold(s impl.Sure, u impl.Url) impl.Url {
	if !sureTold(s) || !impl.UrlOk(u) {
		return impl.Url{}
	}
	sure := slices.ContainsFunc(s.Hosts, func(domain string) bool { return domainInTold(impl.HostPut(u.Host), domain) })
	if u.Scheme == "http" && sure {
		text := strings.Replace(impl.UrlPut(u), "http", "https", 1)
		if u.Port == 443 {
			text = strings.Replace(text, ":443", "", 1)
		}
		if safe, ok := impl.UrlGet(text); ok {
			return safe
		}
	}
	return u
}

func referTold(from impl.Url, to impl.Url) string {
	if !hostedTold(from) || !hostedTold(to) || from.Scheme > to.Scheme {
		return ""
	}
	if impl.OriginOf(from) != impl.OriginOf(to) {
		return impl.OriginPut(impl.OriginOf(from)) + "/"
	}
	bare := bareTold(from)
	if who := from.User + ":" + from.Pass; who != ":" {
		bare = from.Scheme + "://" + bare[strings.IndexByte(bare, '@')+1:]
	}
	return bare
}

func fetchTold(net []impl.Page, s impl.Sure, jar []impl.Cookie, from impl.Url, u impl.Url, now int) (impl.Fetched, int) {
	if !netTold(net) || !sureTold(s) || !jarTold(jar) || !impl.UrlOk(from) || !hostedTold(u) || now < 0 || now > 1000000 {
		return impl.Fetched{}, 1
	}
	return fetchOnTold(net, s, impl.Fetched{Jar: jar}, u, now)
}

// fetchOnTold goes one step, and then on by itself.
func fetchOnTold(net []impl.Page, s impl.Sure, got impl.Fetched, u impl.Url, now int) (impl.Fetched, int) {
	got.Url = sureUrlTold(s, u)
	got.Way = append(slices.Clone(got.Way), impl.UrlPut(got.Url))
	at := netAtTold(net, got.Url)
	if at < 0 {
		return got, 2
	}
	for _, text := range net[at].Says {
		jar, code := jarSetTold(got.Jar, net[at].Url, text, now)
		got.Jar = jar
		if code != 0 {
			got.Denied++
		}
	}
	if net[at].Kind == 1 {
		return got, 0
	}
	next, ok := impl.UrlJoin(net[at].Url, net[at].To)
	if !ok || next.Host == (impl.Host{}) {
		return got, 4
	}
	if text := impl.UrlPut(next); !next.HasFrag && got.Url.HasFrag {
		next, ok = impl.UrlGet(text + "#" + got.Url.Frag)
		if !ok {
			return got, 4
		}
	}
	if len(got.Way) == 6 {
		return got, 3
	}
	return fetchOnTold(net, s, got, next, now)
}

// samePage, sameSure and sameFetched know no difference between no list and an empty one.
func samePage(a impl.Page, b impl.Page) bool {
	return sameUrl(a.Url, b.Url) && a.Kind == b.Kind && a.To == b.To && slices.Equal(a.Says, b.Says)
}

func sameSure(a impl.Sure, b impl.Sure) bool {
	return slices.Equal(a.Hosts, b.Hosts)
}

func sameFetched(a impl.Fetched, b impl.Fetched) bool {
	return sameUrl(a.Url, b.Url) && slices.Equal(a.Way, b.Way) && slices.Equal(a.Jar, b.Jar) && a.Denied == b.Denied
}

// here is a page that is there, with what comes with it.
func here(t *testing.T, url string, says ...string) impl.Page {
	t.Helper()
	return impl.Page{Url: urlOf(t, url), Kind: impl.PageHere, Says: says}
}

// moves is a page that moves on to where a text leads, with what comes with it.
func moves(t *testing.T, url string, to string, says ...string) impl.Page {
	t.Helper()
	return impl.Page{Url: urlOf(t, url), Kind: impl.PageMove, To: to, Says: says}
}

// netOf is pages in their order.
func netOf(pages ...impl.Page) []impl.Page {
	slices.SortFunc(pages, func(a impl.Page, b impl.Page) int { return strings.Compare(bareTold(a.Url), bareTold(b.Url)) })
	return pages
}

func sureOf(hosts ...string) impl.Sure {
	return impl.Sure{Hosts: hosts}
}

// anySpot is an address of few, so that many have a page.
func anySpot(m *maker) impl.Url {
	text := m.pick([]string{"http", "https"}) + "://" + m.pick([]string{"a.com", "b.a.com"}) + m.pick([]string{"/", "/a"}) + m.pick([]string{"", "", "#f"})
	if m.below(5) == 0 {
		text = m.pick([]string{"http", "https"}) + "://" + m.pick([]string{"", "u:p@"}) + m.pick([]string{"a.com", "x"}) + m.pick([]string{"", ":81", ":443", ":80"}) + m.pick([]string{"/", "/b", "?q", "#"})
	}
	u, _ := impl.UrlGet(text)
	return u
}

// anyMoveText is where a page may move on to.
func anyMoveText(m *maker) string {
	if m.below(3) > 0 {
		return impl.UrlPut(anySpot(m))
	}
	return m.pick([]string{"", "/", "/a", "b", "..", "#e", "?q", "?q#", "//x/", "//b.a.com", "about:blank", "http://256.1/", "x:y#z", "\\b\t", strings.Repeat("y", 180)})
}

// anyNet is pages that most often are ok.
func anyNet(m *maker) []impl.Page {
	var net []impl.Page
	for range 2 + m.below(12) {
		p := impl.Page{Url: impl.UrlBase(anySpot(m)), Kind: 1}
		if m.below(3) > 0 {
			p.Kind, p.To = 2, anyMoveText(m)
		}
		for range m.below(3) {
			p.Says = append(p.Says, anyTelling(m))
		}
		twice := slices.ContainsFunc(net, func(o impl.Page) bool { return sameUrl(o.Url, p.Url) })
		if len(net) < 10 && !twice || m.below(200) == 0 {
			net = append(net, p)
		}
	}
	netOf(net...)
	if m.below(40) == 0 {
		one, two := m.below(len(net)), m.below(len(net))
		net[one], net[two] = net[two], net[one]
	}
	return net
}

// anySure is hosts that most often are ok.
func anySure(m *maker) impl.Sure {
	var s impl.Sure
	for range m.below(4) * m.below(3) {
		s.Hosts = append(s.Hosts, m.pick([]string{"a.com", "b.a.com", "com", "x", "c.b.a.com", "a.com.", "y"}))
	}
	slices.Sort(s.Hosts)
	if m.below(20) > 0 {
		s.Hosts = slices.Compact(s.Hosts)
	}
	return s
}

// wrongNets are pages that are not ok, each for one reason alone.
func wrongNets(t *testing.T) map[string][]impl.Page {
	t.Helper()
	all := map[string][]impl.Page{}
	wrong := func(why string, change func(p *impl.Page)) {
		p := moves(t, "http://b.com/", "/", "s=1")
		change(&p)
		all[why] = []impl.Page{here(t, "http://a.com/"), p, here(t, "https://c.com/")}
		all[why+", alone"] = []impl.Page{p}
	}
	wrong("nothing", func(p *impl.Page) { *p = impl.Page{} })
	for i, u := range wrongUrls() {
		wrong("an address that is not ok, "+strconv.Itoa(i), func(p *impl.Page) { p.Url = u })
	}
	wrong("no host", func(p *impl.Page) { p.Url = urlOf(t, "httpa:b") })
	wrong("an end", func(p *impl.Page) { p.Url = urlOf(t, "http://b.com/#f") })
	wrong("an empty end", func(p *impl.Page) { p.Url = urlOf(t, "http://b.com/#") })
	for _, kind := range []int{-1, 0, 3} {
		wrong("of kind "+strconv.Itoa(kind), func(p *impl.Page) { p.Kind = kind })
		wrong("without To, of kind "+strconv.Itoa(kind), func(p *impl.Page) { p.Kind, p.To = kind, "" })
	}
	wrong("a page that is there, and moves", func(p *impl.Page) { p.Kind = impl.PageHere })
	wrong("a long To", func(p *impl.Page) { p.To = strings.Repeat("y", 201) })
	wrong("too many Says", func(p *impl.Page) { p.Says = []string{"s=1", "s=1", "s=1"} })
	wrong("a long first Says", func(p *impl.Page) { p.Says = []string{strings.Repeat("s", 201), ""} })
	wrong("a long last Says", func(p *impl.Page) { p.Says = []string{"", strings.Repeat("s", 201)} })
	all["one twice"] = []impl.Page{here(t, "http://a.com/"), moves(t, "http://a.com/", "x")}
	all["one twice, apart"] = []impl.Page{here(t, "http://a.com/"), here(t, "http://a.com/b"), here(t, "http://a.com/")}
	all["not in order"] = []impl.Page{here(t, "https://a.com/"), here(t, "http://b.com/")}
	all["by host alone"] = []impl.Page{here(t, "http://a.com/"), here(t, "https://a.com/"), here(t, "http://b.com/")}
	all["too many"] = pagesOf(t, 11)
	return all
}

// pagesOf is so many pages that are ok but for their number.
func pagesOf(t *testing.T, n int) []impl.Page {
	t.Helper()
	var net []impl.Page
	for i := range n {
		net = append(net, here(t, "http://a.com/"+string([]byte{byte('a' + i)})))
	}
	return net
}

// wrongSures are hosts that are not ok, each for one reason alone.
func wrongSures() map[string]impl.Sure {
	all := map[string]impl.Sure{
		"one twice":            sureOf("a.com", "a.com"),
		"not in order":         sureOf("a.com", "c.com", "b.com"),
		"the longer one first": sureOf("a.com.", "a.com"),
		"too many":             sureOf("a", "b", "c", "d", "e", "f", "g"),
	}
	for _, host := range wrongNames() {
		all["a name "+host] = sureOf(host)
		all["a name "+host+" among others"] = sureOf(slices.Sorted(slices.Values([]string{"a.com", host, "zz"}))...)
	}
	return all
}

// wrongNames are no names of hosts.
func wrongNames() []string {
	return []string{"", ".", ".a.com", "A.com", "a..com", "a b", "a.com:80", "a.com/", "%61.com", "1.2.3.4", "a.1", "1", "0x7f.1", strings.Repeat("a", 61)}
}
