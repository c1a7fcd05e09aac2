package tests

import (
	"fmt"
	"reflect"
	"regexp"
	"slices"
	"strconv"
	"strings"
	"testing"

	"loop.example/guilloche/impl"
)

// urlOf reads an address that must be there, and be ok.
func urlOf(t *testing.T, text string) impl.Url {
	t.Helper()
	u, ok := impl.UrlGet(text)
	if !ok || !impl.UrlOk(u) {
		t.Fatalf("%q: %+v, read %v", text, u, ok)
	}
	return u
}

// sameUrl holds two addresses against each other, the empty list and none being the same.
func sameUrl(a impl.Url, b impl.Url) bool {
	if !slices.Equal(a.Path, b.Path) {
		return false
	}
	a.Path, b.Path = nil, nil
	return reflect.DeepEqual(a, b)
}

// readUrl holds what UrlGet reads against an address; nothing and false go together.
func readUrl(t *testing.T, text string, want impl.Url) {
	t.Helper()
	got, ok := impl.UrlGet(text)
	if !sameUrl(got, want) || ok != (want.Scheme != "") {
		t.Errorf("%q: %+v %v, not %+v", text, got, ok, want)
	}
}

// noUrl holds that no address is read of a text.
func noUrl(t *testing.T, text string) {
	t.Helper()
	readUrl(t, text, impl.Url{})
}

// becomes holds that a text is read as what is written so.
func becomes(t *testing.T, text string, want string) {
	t.Helper()
	sameText(t, text, impl.UrlPut(urlOf(t, text)), want)
}

// notOk holds all that is told of an address that is not ok.
func notOk(t *testing.T, u impl.Url) {
	t.Helper()
	if impl.UrlOk(u) || impl.UrlPut(u) != "" || impl.UrlSame(u, u) || impl.PortOf(u) != -1 || !sameUrl(impl.UrlBase(u), impl.Url{}) {
		t.Errorf("%+v is ok", u)
	}
}

// What the document tells of addresses, as patterns.
var (
	stepHere    = regexp.MustCompile(`^(\.|%2[eE])$`)
	stepBack    = regexp.MustCompile(`^(\.|%2[eE]){2}$`)
	slash       = regexp.MustCompile(`[/\\]`)
	slashAhead  = regexp.MustCompile(`^[/\\]`)
	portFigures = regexp.MustCompile(`^0*([0-9]{1,5})$`)
	unseenEnds  = regexp.MustCompile(`^[\x00-\x20]+|[\x00-\x20]+$`)
	lineEnds    = regexp.MustCompile(`[\t\n\r]`)
	wholeUrl    = regexp.MustCompile(`(?s)^([A-Za-z][A-Za-z0-9+.\-]*):([^?#]*)(\?[^#]*)?(#.*)?$`)
	pagePart    = regexp.MustCompile(`(?s)^[/\\]*(?:([^/\\:]*)(?::([^/\\]*))?@)?([^/\\:@]*)(?::([^/\\@]*))?([/\\].*)?$`)
)

// pathTold is a path as the document tells it.
func pathTold(text string) []string {
	path := []string{}
	pieces := slash.Split(slashAhead.ReplaceAllString(text, ""), -1)
	for i, piece := range pieces {
		switch {
		case stepHere.MatchString(piece):
		case stepBack.MatchString(piece):
			path = path[:max(len(path)-1, 0)]
		default:
			path = append(path, impl.Encode(impl.SetPath, piece))
			continue
		}
		if i == len(pieces)-1 {
			path = append(path, "")
		}
	}
	return path
}

// portTold is -1 for none, or the scheme's own; -2 for what is no port.
func portTold(text string, scheme string) int {
	if text == "" {
		return -1
	}
	figures := portFigures.FindStringSubmatch(text)
	if figures == nil {
		return -2
	}
	port, _ := strconv.Atoi(figures[1])
	switch {
	case port > 65535:
		return -2
	case scheme == "http" && port == 80 || scheme == "https" && port == 443:
		return -1
	}
	return port
}

// urlTold is an address as the document tells it, found by patterns; nothing if there is none.
func urlTold(text string) impl.Url {
	if len(text) > 200 {
		return impl.Url{}
	}
	return longUrlTold(text)
}

// longUrlTold asks nothing of how long the text is.
func longUrlTold(text string) impl.Url {
	text = string(lineEnds.ReplaceAll(unseenEnds.ReplaceAll([]byte(text), nil), nil))
	all := wholeUrl.FindStringSubmatch(text)
	if all == nil {
		return impl.Url{}
	}
	u := impl.Url{Scheme: strings.ToLower(all[1]), Port: -1}
	if all[3] != "" {
		u.HasQuery, u.Query = true, impl.Encode(impl.SetQuery, all[3][1:])
	}
	if all[4] != "" {
		u.HasFrag, u.Frag = true, impl.Encode(impl.SetFrag, all[4][1:])
	}
	if u.Scheme != "http" && u.Scheme != "https" {
		u.Opaque = impl.Encode(impl.SetOpaque, all[2])
		return u
	}
	part := pagePart.FindStringSubmatch(all[2])
	if part == nil {
		return impl.Url{}
	}
	var ok bool
	u.User, u.Pass = impl.Encode(impl.SetUser, part[1]), impl.Encode(impl.SetUser, part[2])
	u.Host, ok = impl.HostGet(part[3])
	u.Port = portTold(part[4], u.Scheme)
	u.Path = pathTold(part[5])
	if !ok || u.Port == -2 || len(u.Path) > 12 {
		return impl.Url{}
	}
	return u
}

// anyText is a text that is often an address.
func anyText(m *maker) string {
	bytes := allBytes() + strings.Repeat("/\\?#@:%2e. ab0'\"<>`{}^|;=", 8)
	text := m.pick([]string{"http:", "http:", "https:", "HTTPS:", "data:", "a+b-c.1:", "1a:", ""})
	text += m.pick([]string{"//", "//", "", "/", "\\\\", "///\\"})
	text += m.pick([]string{"", "", "", "u@", "u:p@", ":p@", "a@b:c@d:e@", "@", ":@"}) + m.pick([]string{"", "", m.text(4, bytes) + "@"})
	text += m.pick([]string{"a.com", "B.a.com", "x", "1.2", "0x7f.1.", "a..b", "", "%61", "256.256"})
	text += m.pick([]string{"", "", "", ":", ":80", ":443", ":0080", ":8080", ":0", ":65535", ":65536", ":a", ":-1", ":1:2"})
	for range m.below(7) {
		text += m.pick([]string{"/", "/", "\\"}) + m.pick([]string{"", "a", "b c", ".", "..", "%2e", "%2E.", ".%2e", "%2e%2E", "...", "a.", m.text(4, bytes)})
	}
	text += m.pick([]string{"", "", "?", "?q", "?a=b&c?d'", "?" + m.text(6, bytes)})
	text += m.pick([]string{"", "", "#", "#f", "#a b?c#d", "#" + m.text(6, bytes)})
	return m.pick([]string{"", "", " ", "\n\x00"}) + text + m.pick([]string{"", "", " ", "\t\x1f"})
}

// anyUrl is an address that is ok.
func anyUrl(m *maker) impl.Url {
	for range 1000 {
		if u, _ := impl.UrlGet(anyText(m)); impl.UrlOk(u) {
			return u
		}
	}
	panic("no address is ok")
}

// anyPage is an address that is ok, and has a host.
func anyPage(m *maker) impl.Url {
	for range 1000 {
		if u := anyUrl(m); u.Host.Kind != impl.HostNone {
			return u
		}
	}
	panic("no address has a host")
}

func TestLimitsOfAddresses(t *testing.T) {
	if impl.SegMax != 12 || impl.PortMax != 65535 {
		t.Error(impl.SegMax, impl.PortMax)
	}
}

func TestPromise8EachPartIsRead(t *testing.T) {
	readUrl(t, "https://u:p@A.com:444/a/b?q=1#f", impl.Url{
		Scheme: "https", User: "u", Pass: "p", Host: named("a.com"), Port: 444, Path: []string{"a", "b"},
		HasQuery: true, Query: "q=1", HasFrag: true, Frag: "f",
	})
	readUrl(t, "http:x", impl.Url{Scheme: "http", Host: named("x"), Port: -1, Path: []string{""}})
	readUrl(t, "http://0x7f.1//a/?#", impl.Url{
		Scheme: "http", Host: numbered(0x7f000001), Port: -1, Path: []string{"", "a", ""}, HasQuery: true, HasFrag: true,
	})
	readUrl(t, "Data:/x\\y :@?z?#w#?", impl.Url{
		Scheme: "data", Port: -1, Opaque: "/x\\y%20:@", HasQuery: true, Query: "z?", HasFrag: true, Frag: "w#?",
	})
	readUrl(t, "a:", impl.Url{Scheme: "a", Port: -1})
	readUrl(t, "a:#", impl.Url{Scheme: "a", Port: -1, HasFrag: true})
	readUrl(t, "a:?#?", impl.Url{Scheme: "a", Port: -1, HasQuery: true, HasFrag: true, Frag: "?"})
	readUrl(t, "a://u:p@x:80/../b", impl.Url{Scheme: "a", Port: -1, Opaque: "//u:p@x:80/../b"})
	readUrl(t, "http://x?a/b@c:d", impl.Url{Scheme: "http", Host: named("x"), Port: -1, Path: []string{""}, HasQuery: true, Query: "a/b@c:d"})
	readUrl(t, "http://x#a/?b", impl.Url{Scheme: "http", Host: named("x"), Port: -1, Path: []string{""}, HasFrag: true, Frag: "a/?b"})
	readUrl(t, "http://x/@:80", impl.Url{Scheme: "http", Host: named("x"), Port: -1, Path: []string{"@:80"}})
}

func TestPromise8WhatIsWritten(t *testing.T) {
	for text, want := range map[string]string{
		"http://x":                    "http://x/",
		"http:\\/\\//x\\a":            "http://x/a",
		"http:/x/a//b/":               "http://x/a//b/",
		"http://x//":                  "http://x//",
		"http://x:0":                  "http://x:0/",
		"http://x:00":                 "http://x:0/",
		"http://u@x:/":                "http://u@x/",
		"http://u:@x/":                "http://u@x/",
		"http://@x/":                  "http://x/",
		"http://:@x/":                 "http://x/",
		"http://:p:q@x/":              "http://:p%3Aq@x/",
		"http://a b:c;d@x/":           "http://a%20b:c%3Bd@x/",
		"http://%41.COM./":            "http://a.com./",
		"http://1.2/":                 "http://1.0.0.2/",
		"http://x/%2f%zz%":            "http://x/%2f%zz%",
		"http://x/a`{b}|^":            "http://x/a%60%7Bb%7D|^",
		"http://x/?a'\"<>`{}\\ ":      "http://x/?a%27%22%3C%3E`{}\\",
		"http://x/#a'\"<>`{}\\ #b":    "http://x/#a'%22%3C%3E%60{}\\%20#b",
		"x:a'\"<>`{}\\ \x7f\u00e9":    "x:a'\"<>`{}\\%20%7F%C3%A9",
		"https://x:80":                "https://x:80/",
		"http://x:443":                "http://x:443/",
		"httpx://x:80":                "httpx://x:80",
		"x+y-z.1:":                    "x+y-z.1:",
		"http://x/a/../../b/%2E/c/..": "http://x/b/",
		"about:blank":                 "about:blank",
		"javascript:a=b?c:d#e":        "javascript:a=b?c:d#e",
	} {
		becomes(t, text, want)
	}
}

func TestPromise8WhatIsNone(t *testing.T) {
	for _, text := range []string{
		"", " ", ":", "::", "a", "//x", "/a", "?a", "#a", "#a:b", "1:", "+a:", "-a:", ".a:", "a_b:", "a b:", "a/b:c", "\u00e9:", "a\x00:", "%61:",
		"http", "http:", "http:/", "http://", "http:\\\\", "http:///", "http://?a", "http://#a", "https:?", "http://@/", "http://u@/", "http://u:p@", "http://:80/",
		"http:// x/", "http://a b/", "http://a..b/", "http://.a/", "http://a.1/", "http://256.256/", "http://[::1]/", "http://a%2fb/", "http://%/", "http://\u00e9/",
		"http://" + strings.Repeat("a", 61) + "/",
	} {
		noUrl(t, text)
	}
}

func TestPromise8EachByteOfAScheme(t *testing.T) {
	for b := range 256 {
		sign := string([]byte{byte(b)})
		letter := b >= 'a' && b <= 'z' || b >= 'A' && b <= 'Z'
		more := letter || b >= '0' && b <= '9' || b == '+' || b == '-' || b == '.'
		if b == 9 || b == 10 || b == 13 || b == ':' {
			continue
		}
		if _, ok := impl.UrlGet("a" + sign + "a:"); ok != more {
			t.Errorf("byte %d within: %v", b, ok)
		}
		if _, ok := impl.UrlGet(sign + "a:"); b > 32 && ok != letter {
			t.Errorf("byte %d ahead: %v", b, ok)
		}
	}
}

func TestPromise8EachByteOfEachPart(t *testing.T) {
	for b := range 256 {
		if b == 9 || b == 10 || b == 13 {
			continue
		}
		sign := string([]byte{byte(b)})
		text := "a" + sign + "a"
		if !strings.Contains("/\\?#", sign) {
			if sign != ":" {
				becomes(t, "http://"+text+":@x/", "http://"+impl.Encode(impl.SetUser, text)+"@x/")
			}
			becomes(t, "http://u:"+text+"@x/", "http://u:"+impl.Encode(impl.SetUser, text)+"@x/")
			becomes(t, "http://x/"+text+"/b", "http://x/"+impl.Encode(impl.SetPath, text)+"/b")
		}
		if !strings.Contains("?#", sign) {
			becomes(t, "x:"+text, "x:"+impl.Encode(impl.SetOpaque, text))
		}
		if sign != "#" {
			becomes(t, "http://x/?"+text, "http://x/?"+impl.Encode(impl.SetQuery, text))
			becomes(t, "x:?"+text, "x:?"+impl.Encode(impl.SetQuery, text))
		}
		becomes(t, "http://x/#"+text, "http://x/#"+impl.Encode(impl.SetFrag, text))
		becomes(t, "x:#"+text, "x:#"+impl.Encode(impl.SetFrag, text))
	}
}

func TestPromise8AnythingIsReadAsTold(t *testing.T) {
	m := &maker{state: 8}
	found := 0
	for range 20000 {
		text := anyText(m)
		if at := m.below(len(text) + 1); m.below(4) == 0 {
			text = text[:at] + m.text(2, allBytes()) + text[at:]
		}
		readUrl(t, text, urlTold(text))
		if u, ok := impl.UrlGet(text); ok {
			found++
			if len(text) <= 60 && !impl.UrlOk(u) {
				t.Fatalf("%q: %+v is not ok", text, u)
			}
		}
		if t.Failed() {
			return
		}
	}
	if found < 5000 {
		t.Errorf("only %d addresses", found)
	}
}

func TestPromise8WrittenIsReadAsItself(t *testing.T) {
	m := &maker{state: 80}
	for range 5000 {
		u := anyUrl(m)
		text := impl.UrlPut(u)
		readUrl(t, text, u)
		sameText(t, "again", impl.UrlPut(urlOf(t, text)), text)
	}
	for _, part := range []string{"x:%s", "x:?%s", "x:#%s", "http:1/%s", "http:1?%s", "http:1#%s", "http:%s@1", "http::%s@1"} {
		text := fmt.Sprintf(part, strings.Repeat("\xff", 62-len(part)))
		if u := urlOf(t, text); len(text) != 60 || len(impl.UrlPut(u)) < 170 {
			t.Errorf("%d bytes: %q", len(text), impl.UrlPut(u))
		}
	}
}

func TestPromise8LimitOfTheText(t *testing.T) {
	for _, begin := range []string{"x:", "x:?", "x:#", "http://x/", "http://x/?", "http://x/#", "x"} {
		full := begin + strings.Repeat("a", impl.TextMax-len(begin))
		if begin == "x" {
			full = full[:impl.TextMax-1] + ":"
		}
		becomes(t, full, full)
		noUrl(t, full[:2]+"a"+full[2:])
		noUrl(t, full+" ")
		noUrl(t, "\n"+full)
	}
	who := "http://" + strings.Repeat("a", impl.TextMax-10) + "@x/"
	becomes(t, who, who)
	noUrl(t, who+"a")
}

func TestPromise8LimitOfPieces(t *testing.T) {
	full := "http://x" + strings.Repeat("/a", impl.SegMax)
	becomes(t, full, full)
	noUrl(t, full+"/a")
	noUrl(t, full+"/")
	noUrl(t, full+"\\a?q")
	becomes(t, full+"/..", strings.TrimSuffix(full, "a"))
	becomes(t, full+"/../b", strings.TrimSuffix(full, "a")+"b")
	becomes(t, "http://x/../."+full[len("http://x"):], full)
	noUrl(t, full+"/.")
	becomes(t, "http://x/"+strings.Repeat("../", 20), "http://x/")
	u := urlOf(t, full)
	u.Path = append(u.Path, "a")
	notOk(t, u)
	becomes(t, "x:"+strings.Repeat("/a", 20), "x:"+strings.Repeat("/a", 20))
}

func TestPromise8LimitOfPorts(t *testing.T) {
	for text, want := range map[string]int{
		"": -1, "0": 0, "00": 0, "1": 1, "79": 79, "81": 81, "65535": 65535, "065535": 65535, "0000000000000000000000000000065535": 65535,
		"65536": -2, "065536": -2, "99999": -2, "100000": -2, "18446744073709551617": -2, "4294967376": -2,
		"a": -2, "-1": -2, "+1": -2, "-0": -2, "1a": -2, " 1": -2, "1 ": -2, "0x50": -2, "8_0": -2, "1:": -2, ":": -2, ":1": -2, "1.": -2, "%38": -2, "\xff": -2,
	} {
		for _, end := range []string{"", "/", "\\", "?", "#"} {
			u, ok := impl.UrlGet("https://x:" + text + end)
			if text == "1 " && end == "" {
				continue
			}
			if ok != (want > -2) || ok && u.Port != want {
				t.Errorf("%q%q: %d %v, not %d", text, end, u.Port, ok, want)
			}
		}
	}
	u := urlOf(t, "http://x:65535/")
	u.Port++
	notOk(t, u)
	u.Port = -2
	notOk(t, u)
}

func TestPromise8LongerThanATextIsNotOk(t *testing.T) {
	full := "x:" + strings.Repeat("\xff", 66)
	becomes(t, full, "x:"+strings.Repeat("%FF", 66))
	long, ok := impl.UrlGet(full + "a")
	if !ok || long.Opaque != strings.Repeat("%FF", 66)+"a" {
		t.Errorf("%+v %v", long, ok)
	}
	notOk(t, long)
	most, ok := impl.UrlGet("x:" + strings.Repeat("\xff", impl.TextMax-2))
	if !ok || most.Opaque != strings.Repeat("%FF", impl.TextMax-2) {
		t.Errorf("%+v %v", most, ok)
	}
	notOk(t, most)
	page, ok := impl.UrlGet("http:1/" + strings.Repeat("\xff", impl.TextMax-7))
	if !ok || page.Path[0] != strings.Repeat("%FF", impl.TextMax-7) {
		t.Errorf("%+v %v", page, ok)
	}
	notOk(t, page)
}

func TestPromise8WhatIsOk(t *testing.T) {
	notOk(t, impl.Url{})
	notOk(t, impl.Url{Scheme: "http"})
	notOk(t, impl.Url{Scheme: "http", Port: -1, Path: []string{"x", "a"}})
	notOk(t, impl.Url{Scheme: "x"})
	page := urlOf(t, "http://u:p@a.com:8080/a/b?q#f")
	other := urlOf(t, "x:y?q#f")
	for i, change := range []func(u *impl.Url){
		func(u *impl.Url) { u.Scheme = "" },
		func(u *impl.Url) { u.Scheme = "HTTP" },
		func(u *impl.Url) { u.Scheme = "x y" },
		func(u *impl.Url) { u.Scheme = "x:" },
		func(u *impl.Url) { u.Scheme = "\nhttp" },
		func(u *impl.Url) { u.User = "a b" },
		func(u *impl.Url) { u.User = "a:b" },
		func(u *impl.Url) { u.Pass = "a/b" },
		func(u *impl.Url) { u.Pass = "@" },
		func(u *impl.Url) { u.Host = impl.Host{} },
		func(u *impl.Url) { u.Host.Name = "A.com" },
		func(u *impl.Url) { u.Host.Name = "1" },
		func(u *impl.Url) { u.Host.Addr = 1 },
		func(u *impl.Url) { u.Host.Kind = impl.HostFour },
		func(u *impl.Url) { u.Port = 80 },
		func(u *impl.Url) { u.Port = -2 },
		func(u *impl.Url) { u.Port = 65536 },
		func(u *impl.Url) { u.Path = nil },
		func(u *impl.Url) { u.Path = []string{} },
		func(u *impl.Url) { u.Path = []string{"a/b"} },
		func(u *impl.Url) { u.Path = []string{"a\\b"} },
		func(u *impl.Url) { u.Path = []string{"."} },
		func(u *impl.Url) { u.Path = []string{"a", "%2E."} },
		func(u *impl.Url) { u.Path = []string{"a b"} },
		func(u *impl.Url) { u.Path = []string{"a?"} },
		func(u *impl.Url) { u.Opaque = "a" },
		func(u *impl.Url) { u.HasQuery = false },
		func(u *impl.Url) { u.Query = "a'" },
		func(u *impl.Url) { u.Query = "a#b" },
		func(u *impl.Url) { u.HasFrag = false },
		func(u *impl.Url) { u.Frag = "a b" },
		func(u *impl.Url) { u.Frag = "a\n" },
	} {
		u := page
		change(&u)
		if sameUrl(u, page) {
			t.Errorf("change %d changes nothing", i)
		}
		notOk(t, u)
	}
	for _, change := range []func(u *impl.Url){
		func(u *impl.Url) { u.Scheme = "X" },
		func(u *impl.Url) { u.Scheme = "http" },
		func(u *impl.Url) { u.User = "u" },
		func(u *impl.Url) { u.Pass = "p" },
		func(u *impl.Url) { u.Host = named("a") },
		func(u *impl.Url) { u.Port = 0 },
		func(u *impl.Url) { u.Port = 1 },
		func(u *impl.Url) { u.Port = -2 },
		func(u *impl.Url) { u.Path = []string{""} },
		func(u *impl.Url) { u.Opaque = "a b" },
		func(u *impl.Url) { u.Opaque = "a?b" },
		func(u *impl.Url) { u.Opaque = "a#b" },
		func(u *impl.Url) { u.Opaque = "\xff" },
		func(u *impl.Url) { u.HasQuery = false },
		func(u *impl.Url) { u.HasFrag = false },
	} {
		u := other
		change(&u)
		notOk(t, u)
	}
	other.Path = []string{}
	if !impl.UrlOk(other) {
		t.Error("the empty list is not none")
	}
}

func TestPromise9EndsThatCannotBeSeen(t *testing.T) {
	u := urlOf(t, "http://x/a?b#c")
	for b := range 256 {
		sign := string([]byte{byte(b)})
		if b > 32 {
			sameText(t, "behind", impl.UrlPut(urlOf(t, "http://x/a?b#c"+sign)), "http://x/a?b#c"+impl.Encode(impl.SetFrag, sign))
			continue
		}
		readUrl(t, sign+"http://x/a?b#c", u)
		readUrl(t, "http://x/a?b#c"+sign, u)
		readUrl(t, sign+" \n\x00"+sign+"http://x/a?b#c"+sign+"\x1f\t "+sign, u)
	}
	for _, text := range []string{"\x7fhttp://x/", "\xa0http://x/", "\u00a0http://x/", "\u2003http://x/", "\ufeffhttp://x/"} {
		noUrl(t, text)
	}
	becomes(t, "x: \n y\u00a0", "x:%20%20y%C2%A0")
	noUrl(t, " \n\t\r\x00")
}

func TestPromise9LineEndsCountNowhere(t *testing.T) {
	const text = "https://u:p@a.com:444/a/../b?q#f"
	u := urlOf(t, text)
	for at := range len(text) + 1 {
		for _, end := range []string{"\t", "\n", "\r", "\r\n\t"} {
			readUrl(t, text[:at]+end+text[at:], u)
		}
	}
	becomes(t, "http://x/a/.\n./b", "http://x/b")
	becomes(t, "http://x/%\n2e/b", "http://x/b")
	becomes(t, "http://x\n.\ncom:\n8\n0/", "http://x.com/")
	for _, sign := range []string{"\x00", "\x0b", "\x0c", "\x1f", " "} {
		noUrl(t, "ht"+sign+"tp://x/")
		noUrl(t, "http://x"+sign+"y/")
		noUrl(t, "http://x:8"+sign+"0/")
		becomes(t, "http://x/a"+sign+"b", "http://x/a"+impl.Encode(impl.SetPath, sign)+"b")
	}
}

func TestPromise9AnythingWithBlanks(t *testing.T) {
	m := &maker{state: 9}
	for range 5000 {
		u := anyUrl(m)
		text := impl.UrlPut(u)
		at := m.below(len(text) + 1)
		dressed := m.text(3, " \n\x00\x1f") + text[:at] + "\n" + text[at:] + m.text(3, " \n\x00\x1f")
		if len(dressed) <= impl.TextMax {
			readUrl(t, dressed, u)
		}
	}
}

func TestPromise10WithoutItsEnd(t *testing.T) {
	for text, want := range map[string]string{
		"http://x/a?q#f": "http://x/a?q",
		"http://x/a?q":   "http://x/a?q",
		"http://x/#":     "http://x/",
		"http://x/?#":    "http://x/?",
		"http://x/#?a":   "http://x/",
		"x:y#f":          "x:y",
		"x:?#f#g":        "x:?",
	} {
		sameText(t, text, impl.UrlPut(impl.UrlBase(urlOf(t, text))), want)
	}
	m := &maker{state: 10}
	for range 5000 {
		u := anyUrl(m)
		want := u
		want.HasFrag, want.Frag = false, ""
		base := impl.UrlBase(u)
		if !sameUrl(base, want) || !impl.UrlOk(base) || !impl.UrlSame(base, u) || !impl.UrlSame(u, base) || !sameUrl(impl.UrlBase(base), base) {
			t.Fatalf("%+v: %+v", u, base)
		}
	}
}

func TestPromise11SameWithoutTheirEnds(t *testing.T) {
	m := &maker{state: 11}
	yes, no := 0, 0
	for range 5000 {
		a, b := anyUrl(m), anyUrl(m)
		if m.below(2) == 0 {
			b = a
			b.HasFrag, b.Frag = true, m.pick([]string{"", "x", "f"})
		}
		if m.below(4) == 0 {
			b.HasQuery, b.Query = true, m.pick([]string{"", "x"})
		}
		if !impl.UrlOk(b) {
			continue
		}
		want := impl.UrlPut(impl.UrlBase(a)) == impl.UrlPut(impl.UrlBase(b))
		if impl.UrlSame(a, b) != want || impl.UrlSame(b, a) != want {
			t.Fatalf("%q and %q: %v", impl.UrlPut(a), impl.UrlPut(b), !want)
		}
		if want {
			yes++
		} else {
			no++
		}
	}
	if yes < 500 || no < 500 {
		t.Error(yes, no)
	}
}

func TestPromise11EachPartCounts(t *testing.T) {
	const text = "http://u:p@a.com:81/a/b?q#f"
	u := urlOf(t, text)
	for _, other := range []string{
		"https://u:p@a.com:81/a/b?q#f", "http://v:p@a.com:81/a/b?q#f", "http://u:q@a.com:81/a/b?q#f", "http://u@a.com:81/a/b?q#f", "http://a.com:81/a/b?q#f",
		"http://u:p@b.com:81/a/b?q#f", "http://u:p@a.com.:81/a/b?q#f", "http://u:p@a.com:82/a/b?q#f", "http://u:p@a.com/a/b?q#f", "http://u:p@a.com:81/a/c?q#f",
		"http://u:p@a.com:81/a?q#f", "http://u:p@a.com:81/a/b/?q#f", "http://u:p@a.com:81/a/b?r#f", "http://u:p@a.com:81/a/b?#f", "http://u:p@a.com:81/a/b#f", "x:y?q#f",
	} {
		v := urlOf(t, other)
		if impl.UrlSame(u, v) || impl.UrlSame(v, u) {
			t.Errorf("%q is %q", text, other)
		}
	}
	for _, other := range []string{"http://u:p@a.com:81/a/b?q", "http://u:p@a.com:81/a/b?q#", "HTTP:\\\\u:p@A.COM:081/./a/c/../b?q#g"} {
		v := urlOf(t, other)
		if !impl.UrlSame(u, v) || !impl.UrlSame(v, u) {
			t.Errorf("%q is not %q", text, other)
		}
	}
	if impl.UrlSame(urlOf(t, "x:y"), urlOf(t, "x:z")) || !impl.UrlSame(urlOf(t, "x:y#a"), urlOf(t, "x:y#b")) {
		t.Error("without a host")
	}
	wrong := u
	wrong.Frag = "a b"
	if impl.UrlSame(u, wrong) || impl.UrlSame(wrong, u) || impl.UrlSame(impl.Url{}, impl.Url{}) {
		t.Error("what is not ok")
	}
}

func TestPromise14PortOfAScheme(t *testing.T) {
	for text, want := range map[string]int{
		"http://x/": 80, "https://x/": 443, "http://x:443/": 443, "https://x:80/": 80, "http://x:0/": 0, "http://x:65535/": 65535, "http://x:81/": 81,
		"x:y": -1, "ftp://x:21/": -1, "about:blank": -1,
	} {
		if got := impl.PortOf(urlOf(t, text)); got != want {
			t.Errorf("%q: %d, not %d", text, got, want)
		}
	}
	m := &maker{state: 14}
	for range 5000 {
		u := anyUrl(m)
		own := map[string]int{"http": 80, "https": 443}[u.Scheme]
		port := impl.PortOf(u)
		u.Port = port
		if impl.UrlOk(u) != (port != own) {
			t.Fatalf("%+v: %v", u, impl.UrlOk(u))
		}
	}
}

func TestWatchPortThatIsTheSchemesOwn(t *testing.T) {
	for _, text := range []string{"http://x:80/", "http://x:080/", "http://x:00000080", "HTTP://X:80", "http:x:80", "http://x:/", "http://x"} {
		becomes(t, text, "http://x/")
		if u := urlOf(t, text); u.Port != -1 || impl.PortOf(u) != 80 {
			t.Errorf("%q: %d %d", text, u.Port, impl.PortOf(u))
		}
	}
	for _, text := range []string{"https://x:443/", "https://x:0443\\", "HTTPS:x:443", "https://x:"} {
		becomes(t, text, "https://x/")
	}
	becomes(t, "http://x:443/", "http://x:443/")
	becomes(t, "https://x:80/", "https://x:80/")
	becomes(t, "x://x:80/", "x://x:80/")
	for scheme, own := range map[string]int{"http": 80, "https": 443} {
		u := urlOf(t, scheme+"://x/")
		u.Port = own
		notOk(t, u)
		u.Port = 523 - own
		if !impl.UrlOk(u) {
			t.Errorf("%+v", u)
		}
	}
}

func TestWatchWhoWithSeveralAtSigns(t *testing.T) {
	for text, want := range map[string]string{
		"http://a@b@c.com":       "http://a%40b@c.com/",
		"http://@@x":             "http://%40@x/",
		"http://a@@x":            "http://a%40@x/",
		"http://@a@x":            "http://%40a@x/",
		"http://a:b@c:d@x:81":    "http://a:b%40c%3Ad@x:81/",
		"http://a@b:c@d@x":       "http://a%40b:c%40d@x/",
		"http://:@@x":            "http://:%40@x/",
		"http://a.com:80@b.com":  "http://a.com:80@b.com/",
		"http://a:80@b:80@c:80":  "http://a:80%40b%3A80@c/",
		"http://a@x/@b@c":        "http://a@x/@b@c",
		"http://x/a@b":           "http://x/a@b",
		"http://x?a@b":           "http://x/?a@b",
		"http://x#a@b":           "http://x/#a@b",
		"http://a@x\\@y":         "http://a@x/@y",
		"http://a%40b@x":         "http://a%40b@x/",
		"http://a[]^|\\@x":       "",
		"http://a@b@":            "",
		"http://a@b@/x":          "",
		"http://a@b@:80":         "",
		"x://a@b@c":              "x://a@b@c",
		"http://a=;[]^|`{}\"@x/": "http://a%3D%3B%5B%5D%5E%7C%60%7B%7D%22@x/",
	} {
		if want == "" {
			noUrl(t, text)
		} else {
			becomes(t, text, want)
		}
	}
	u := urlOf(t, "http://a@b:c@d:e@x:81/")
	sameText(t, "user", u.User, "a%40b")
	sameText(t, "pass", u.Pass, "c%40d%3Ae")
}

func TestPromise51SchemeInCapitalLetters(t *testing.T) {
	m := &maker{state: 51}
	for range 5000 {
		u := anyUrl(m)
		text := impl.UrlPut(u)
		readUrl(t, strings.ToUpper(u.Scheme)+text[len(u.Scheme):], u)
	}
	readUrl(t, "hTtPs://x", urlOf(t, "https://x"))
	readUrl(t, "ABOUT:Blank", impl.Url{Scheme: "about", Port: -1, Opaque: "Blank"})
}

func TestPromise52SlashesOfEitherKind(t *testing.T) {
	m := &maker{state: 52}
	for range 5000 {
		u := anyPage(m)
		text := impl.UrlPut(u)
		at := strings.IndexAny(text+"?", "?#")
		readUrl(t, strings.ReplaceAll(text[:at], "/", "\\")+text[at:], u)
	}
	becomes(t, "http:\\\\x\\a\\..\\b\\.\\c?d\\e/f#g\\h/i", "http://x/b/c?d\\e/f#g\\h/i")
	becomes(t, "http:/\\/x\\/a", "http://x//a")
	becomes(t, "http://x\\\\a", "http://x//a")
	becomes(t, "x:\\a/b", "x:\\a/b")
}

func TestPromise53EachPartStandsWhereItIsRead(t *testing.T) {
	m := &maker{state: 53}
	for range 5000 {
		u := anyUrl(m)
		if len(impl.UrlPut(u)) > impl.TextMax-50 {
			continue
		}
		u.HasQuery, u.Query = true, impl.Encode(impl.SetQuery, m.text(8, mixed()))
		u.HasFrag, u.Frag = true, impl.Encode(impl.SetFrag, m.text(8, mixed()))
		if m.below(4) == 0 {
			u.HasQuery, u.Query = false, ""
		}
		if m.below(4) == 0 {
			u.HasFrag, u.Frag = false, ""
		}
		readUrl(t, impl.UrlPut(u), u)
	}
}

func TestAddressesAreNewMemory(t *testing.T) {
	u := urlOf(t, "http://x/a/b/c?q#f")
	room := append(slices.Clone(u.Path), "behind", "the end")
	kept := slices.Clone(room)
	u.Path = room[:3]
	base := impl.UrlBase(u)
	clear(base.Path[:cap(base.Path)])
	sameText(t, "written", impl.UrlPut(u), "http://x/a/b/c?q#f")
	if !impl.UrlSame(u, u) || impl.PortOf(u) != 80 || !slices.Equal(room, kept) {
		t.Errorf("%q, not %q", room, kept)
	}
	one, two := urlOf(t, "http://x/a/b/.."), urlOf(t, "http://x/a/b/..")
	clear(one.Path[:cap(one.Path)])
	sameText(t, "the other", impl.UrlPut(two), "http://x/a/")
}
