package tests

import (
	"regexp"
	"slices"
	"strings"
	"testing"

	"loop.example/guilloche/impl"
)

// leads holds that a text leads from an address to another one; to none, if that is empty.
func leads(t *testing.T, from string, text string, want string) {
	t.Helper()
	u, ok := impl.UrlJoin(urlOf(t, from), text)
	if ok != (want != "") || impl.UrlPut(u) != want || !ok && !sameUrl(u, impl.Url{}) {
		t.Errorf("%q from %q: %+v %v, not %q", text, from, u, ok, want)
	}
}

// joins holds what UrlJoin answers against an address; nothing and false go together.
func joins(t *testing.T, base impl.Url, text string, want impl.Url) {
	t.Helper()
	got, ok := impl.UrlJoin(base, text)
	if !sameUrl(got, want) || ok != (want.Scheme != "") {
		t.Fatalf("%q from %+v: %+v %v, not %+v", text, base, got, ok, want)
	}
}

// okOrNone is an address that is ok, or nothing.
func okOrNone(u impl.Url) impl.Url {
	if !impl.UrlOk(u) {
		return impl.Url{}
	}
	return u
}

// What the document tells of relative ones, as patterns.
var (
	schemeAhead  = regexp.MustCompile(`^[A-Za-z][A-Za-z0-9+.\-]*:`)
	slashesAhead = regexp.MustCompile(`^[/\\][/\\]`)
	pathAndTail  = regexp.MustCompile(`(?s)^([^?#]*)(\?[^#]*)?(#.*)?$`)
)

// joinTold is where a text leads, as the document tells it; nothing if there is none.
func joinTold(base impl.Url, text string) impl.Url {
	if len(text) > 200 || !impl.UrlOk(base) {
		return impl.Url{}
	}
	text = string(lineEnds.ReplaceAll(unseenEnds.ReplaceAll([]byte(text), nil), nil))
	switch {
	case schemeAhead.MatchString(text):
		return okOrNone(urlTold(text))
	case base.Host == impl.Host{} && !strings.HasPrefix(text, "#"):
		return impl.Url{}
	case slashesAhead.MatchString(text):
		return okOrNone(longUrlTold(base.Scheme + ":" + text))
	}
	part := pathAndTail.FindStringSubmatch(text)
	u := base
	u.HasFrag, u.Frag = false, ""
	switch {
	case slashAhead.MatchString(part[1]):
		u.Path = pathTold(part[1])
	case part[1] != "":
		u.Path = pathTold(impl.PathPut(base.Path[:len(base.Path)-1]) + "/" + part[1])
	}
	if part[1] != "" || part[2] != "" {
		u.HasQuery, u.Query = false, ""
	}
	if part[2] != "" {
		u.HasQuery, u.Query = true, impl.Encode(impl.SetQuery, part[2][1:])
	}
	if part[3] != "" {
		u.HasFrag, u.Frag = true, impl.Encode(impl.SetFrag, part[3][1:])
	}
	return okOrNone(u)
}

// anyRelative is a text that is often a relative address.
func anyRelative(m *maker) string {
	if m.below(6) == 0 {
		return anyText(m)
	}
	bytes := allBytes() + strings.Repeat("/\\?#@:%2e. ab", 12)
	text := m.pick([]string{"", "", "", "/", "\\", "//c.com", "\\/c.com:81", "///", "./", "../", "a:", "http:", "//"})
	for i := range m.below(6) {
		if i > 0 {
			text += m.pick([]string{"/", "/", "\\"})
		}
		text += m.pick([]string{"", "a", "b c", ".", "..", "%2e", "%2E.", ".%2e", "%2e%2E", "...", "a:b", m.text(4, bytes)})
	}
	text += m.pick([]string{"", "", "?", "?q", "?a/b?:c'", "?" + m.text(6, bytes)})
	text += m.pick([]string{"", "", "#", "#f", "#a b?c#d", "#" + m.text(6, bytes)})
	return m.pick([]string{"", "", " ", "\n\x00"}) + text + m.pick([]string{"", "", " ", "\t\x1f"})
}

// anyBase is an address that is ok, three of four times with a host.
func anyBase(m *maker) impl.Url {
	if m.below(4) == 0 {
		return anyUrl(m)
	}
	return anyPage(m)
}

func TestPromise15TheEmptyText(t *testing.T) {
	for text, want := range map[string]string{
		"http://x":                    "http://x/",
		"http://x/a/b?q#f":            "http://x/a/b?q",
		"http://x/?#":                 "http://x/?",
		"https://u:p@1.2.3.4:5//a/#f": "https://u:p@1.2.3.4:5//a/",
		"about:blank":                 "",
		"about:blank#f":               "",
		"x:?q":                        "",
	} {
		leads(t, text, "", want)
		leads(t, text, " \n\t\x00\x1f\r ", want)
	}
	m := &maker{state: 15}
	for range 3000 {
		u := anyBase(m)
		want := impl.Url{}
		if u.Host != (impl.Host{}) {
			want = impl.UrlBase(u)
		}
		joins(t, u, "", want)
	}
}

func TestPromise16AWholeAddress(t *testing.T) {
	for _, from := range []string{"http://x/a/b?q#f", "https://y", "about:blank", "x:y?q#f"} {
		for _, text := range []string{"http://x/a/b?q#f", "https://x/", "http://u:p@1.2.3.4:81//a?#", "about:blank", "x:", "x:y#", "a+b-c.1:?q", "x://y/z"} {
			leads(t, from, text, text)
		}
		leads(t, from, "HTTP:y", "http://y/")
		leads(t, from, "http:/a", "http://a/")
		leads(t, from, "https:\\\\\\y\\b", "https://y/b")
		leads(t, from, " \nh\nttp\t://x/ \x00", "http://x/")
		leads(t, from, "X:y z", "x:y%20z")
		for _, none := range []string{"http:", "http://", "HTTP:/", "https:?q", "http:#f", "http://a..b", "http://x:65536", "https://u@", "http:..:a"} {
			leads(t, from, none, "")
		}
	}
	m := &maker{state: 16}
	for range 3000 {
		from, to := anyUrl(m), anyUrl(m)
		joins(t, from, impl.UrlPut(to), to)
	}
}

func TestPromise17AShortText(t *testing.T) {
	for _, c := range []struct{ from, to, want string }{
		{"http://x/a/b?q#f", "http://x/a/b?q#g", "#g"},
		{"http://x/a/b?q#f", "http://x/a/b?q#", "#"},
		{"http://x/a/b?q#f", "http://x/a/b?q", "/a/b?q"},
		{"http://x/a/b?q#f", "http://x/a/b?#g", "/a/b?#g"},
		{"http://x/a/b", "http://x/", "/"},
		{"http://x/a/b", "http://x/?#", "/?#"},
		{"http://x/a/b", "http://x/c//d/", "/c//d/"},
		{"http://u:p@x:81/", "http://u:p@x:81/a", "/a"},
		{"http://u:p@x:81/", "http://v:p@x:81/a", "http://v:p@x:81/a"},
		{"http://u:p@x:81/", "http://u:q@x:81/a", "http://u:q@x:81/a"},
		{"http://u:p@x:81/", "http://u:p@y:81/a", "http://u:p@y:81/a"},
		{"http://u:p@x:81/", "http://u:p@x:82/a", "http://u:p@x:82/a"},
		{"http://u:p@x:81/", "http://u:p@x/a", "http://u:p@x/a"},
		{"http://u:p@x:81/", "https://u:p@x:81/a", "https://u:p@x:81/a"},
		{"http://x/", "https://x/", "https://x/"},
		{"http://x/", "x:y?q#f", "x:y?q#f"},
		{"x:y", "http://x/", "http://x/"},
		{"x:y", "x:y", "x:y"},
		{"x:y#a", "x:y#b", "#b"},
		{"x:y?q", "x:y#b", "x:y#b"},
		{"x:y", "x:z", "x:z"},
	} {
		sameText(t, c.from+" to "+c.to, impl.UrlLess(urlOf(t, c.from), urlOf(t, c.to)), c.want)
		leads(t, c.from, c.want, c.to)
	}
}

func TestPromise17AnyShortText(t *testing.T) {
	m := &maker{state: 17}
	short := 0
	for range 5000 {
		from, to := anyUrl(m), anyUrl(m)
		if m.below(2) == 0 {
			to.Scheme, to.User, to.Pass, to.Host, to.Port, to.Opaque = from.Scheme, from.User, from.Pass, from.Host, from.Port, from.Opaque
		}
		if m.below(2) == 0 {
			to.Path, to.HasQuery, to.Query = from.Path, from.HasQuery, from.Query
		}
		if !impl.UrlOk(to) {
			continue
		}
		text, whole := impl.UrlLess(from, to), impl.UrlPut(to)
		joins(t, from, text, to)
		if len(text) > len(whole) {
			t.Fatalf("%q for %q", text, whole)
		}
		if text != whole {
			short++
		}
	}
	if short < 1000 {
		t.Errorf("only %d are short", short)
	}
}

func TestPromise17OfWhatIsNotOk(t *testing.T) {
	page, wrong := urlOf(t, "http://x/a#f"), urlOf(t, "http://x/a#f")
	wrong.Frag = "a b"
	for _, u := range []impl.Url{wrong, {}, {Scheme: "http"}} {
		sameText(t, "from", impl.UrlLess(u, page), "")
		sameText(t, "to", impl.UrlLess(page, u), "")
		sameText(t, "both", impl.UrlLess(u, u), "")
	}
}

func TestPromise18TheEndOfTheBaseDoesNotMatter(t *testing.T) {
	m := &maker{state: 18}
	for range 5000 {
		u, text := anyBase(m), anyRelative(m)
		want, _ := impl.UrlJoin(u, text)
		joins(t, impl.UrlBase(u), text, want)
	}
	for _, from := range []string{"http://x/a/b?q", "http://x/a/b?q#", "http://x/a/b?q#f", "http://x/a/b?q#/c/d?e"} {
		leads(t, from, "", "http://x/a/b?q")
		leads(t, from, "#g", "http://x/a/b?q#g")
		leads(t, from, "c", "http://x/a/c")
		leads(t, from, "?r", "http://x/a/b?r")
	}
}

func TestPromise19TheSameHost(t *testing.T) {
	m := &maker{state: 19}
	found := 0
	for range 5000 {
		u := anyPage(m)
		to, ok := impl.UrlJoin(u, "./"+m.pick([]string{anyRelative(m), m.text(20, allBytes()), m.text(20, mixed())}))
		if !ok {
			continue
		}
		found++
		if to.Scheme != u.Scheme || to.User != u.User || to.Pass != u.Pass || to.Host != u.Host || to.Port != u.Port || to.Opaque != "" {
			t.Fatalf("%+v leads to %+v", u, to)
		}
	}
	if found < 3000 {
		t.Errorf("only %d", found)
	}
	leads(t, "http://u:p@x:81/a/b?q#f", ".//c", "http://u:p@x:81/a//c")
	leads(t, "http://u:p@x:81/a/b?q#f", "./http://y", "http://u:p@x:81/a/http://y")
	leads(t, "http://u:p@x:81/a/b?q#f", "./@y:80", "http://u:p@x:81/a/@y:80")
	leads(t, "http://u:p@x:81/a/b?q#f", "c:/d", "c:/d")
	leads(t, "http://u:p@x:81/a/b?q#f", "1:/d", "http://u:p@x:81/a/1:/d")
	leads(t, "http://u:p@x:81/a/b?q#f", ":80", "http://u:p@x:81/a/:80")
	leads(t, "http://u:p@x:81/a/b?q#f", "a/c:d", "http://u:p@x:81/a/a/c:d")
	leads(t, "http://u:p@x:81/a/b?q#f", "?c:d", "http://u:p@x:81/a/b?c:d")
	leads(t, "http://u:p@x:81/a/b?q#f", "#c:d", "http://u:p@x:81/a/b?q#c:d")
	leads(t, "http://u:p@x:81/a/b?q#f", "/c:d", "http://u:p@x:81/c:d")
	leads(t, "http://u:p@x:81/a/b?q#f", "a b:c", "http://u:p@x:81/a/a%20b:c")
}

func TestPromise20EndsAlone(t *testing.T) {
	m := &maker{state: 20}
	for range 5000 {
		u := anyBase(m)
		end, ask := m.text(6, mixed())+"a", strings.ReplaceAll(m.text(6, mixed()), "#", "")+"a"
		end, ask = lineEnds.ReplaceAllString(end, ""), lineEnds.ReplaceAllString(ask, "")
		want := impl.UrlBase(u)
		want.HasFrag, want.Frag = true, impl.Encode(impl.SetFrag, end)
		joins(t, u, "#"+end, okOrNone(want))
		want = impl.UrlBase(u)
		want.HasQuery, want.Query = true, impl.Encode(impl.SetQuery, ask)
		if u.Host == (impl.Host{}) {
			want = impl.Url{}
		}
		joins(t, u, "?"+ask, okOrNone(want))
	}
	for text, want := range map[string]string{
		"#": "http://x/a/b?q#", "#end": "http://x/a/b?q#end", "#a#b": "http://x/a/b?q#a#b", "#?r": "http://x/a/b?q#?r", "#/../c": "http://x/a/b?q#/../c", "# a": "http://x/a/b?q#%20a",
		"?": "http://x/a/b?", "?ask": "http://x/a/b?ask", "?#": "http://x/a/b?#", "?r#g": "http://x/a/b?r#g", "??": "http://x/a/b??", "?/../c": "http://x/a/b?/../c", "? '": "http://x/a/b?%20%27",
	} {
		leads(t, "http://x/a/b?q#f", text, want)
	}
	leads(t, "x:y?q#f", "#end", "x:y?q#end")
	leads(t, "x:y#f", "#", "x:y#")
	leads(t, "x:y", " #a b?c ", "x:y#a%20b?c")
}

func TestPromise20NothingElseLeadsFromWhatHasNoHost(t *testing.T) {
	for _, text := range []string{"", "a", "/a", "//a", "\\\\a.com/", "?", "?q", "?q#f", ".", "..", "a#f", "1:", "/#", ":", "a/b:c"} {
		leads(t, "about:blank", text, "")
		leads(t, "x:/y/z?q#f", text, "")
		leads(t, "x://y/z", text, "")
	}
}

func TestPromise55FromWhereATextLed(t *testing.T) {
	m := &maker{state: 55}
	pages := 0
	for range 5000 {
		to, ok := impl.UrlJoin(anyBase(m), anyRelative(m))
		if !ok {
			continue
		}
		if !impl.UrlOk(to) {
			t.Fatalf("%+v is not ok", to)
		}
		if to.Host != (impl.Host{}) {
			pages++
			joins(t, to, "", impl.UrlBase(to))
		}
		joins(t, to, impl.UrlPut(to), to)
	}
	if pages < 2000 {
		t.Errorf("only %d pages", pages)
	}
}

func TestPromise55AnythingLeadsWhereItIsTold(t *testing.T) {
	m := &maker{state: 550}
	found, none := 0, 0
	for range 15000 {
		u, text := anyBase(m), anyRelative(m)
		if at := m.below(len(text) + 1); m.below(4) == 0 {
			text = text[:at] + m.text(2, allBytes()) + text[at:]
		}
		want := joinTold(u, text)
		joins(t, u, text, want)
		if want.Scheme != "" {
			found++
		} else {
			none++
		}
	}
	if found < 5000 || none < 500 {
		t.Error(found, none)
	}
}

func TestPromise55FromWhatIsNotOk(t *testing.T) {
	wrong := urlOf(t, "http://x/a/b?q#f")
	wrong.Port = 80
	for _, base := range []impl.Url{{}, wrong, {Scheme: "http", Port: -1}, {Scheme: "x"}, {Scheme: "http", Host: named("x"), Port: -1}} {
		for _, text := range []string{"", "a", "/a", "//a", "?a", "#a", "http://x/", "about:blank"} {
			joins(t, base, text, impl.Url{})
		}
	}
}

func TestPromise55LimitOfTheText(t *testing.T) {
	steps := strings.Repeat("./", impl.TextMax/2)
	blanks := strings.Repeat(" ", impl.TextMax-1)
	for text, want := range map[string]string{
		steps:                         "http://x/a/",
		"/" + steps[1:]:               "",
		"/c/" + steps[3:]:             "http://x/c//",
		steps[:impl.TextMax-2] + "cd": "http://x/a/cd",
		blanks + "c":                  "http://x/a/c",
		"c" + blanks:                  "http://x/a/c",
		" " + blanks:                  "http://x/a/b?q",
		"c:" + strings.Repeat("d", impl.TextMax-2):        "c:" + strings.Repeat("d", impl.TextMax-2),
		"http://y/" + strings.Repeat("d", impl.TextMax-9): "http://y/" + strings.Repeat("d", impl.TextMax-9),
	} {
		if len(text) != impl.TextMax {
			t.Fatalf("%q has %d bytes", text, len(text))
		}
		leads(t, "http://x/a/b?q#f", text, want)
		leads(t, "http://x/a/b?q#f", text+" ", "")
		leads(t, "http://x/a/b?q#f", "\n"+text, "")
	}
}

func TestPromise55LimitOfWhatIsWritten(t *testing.T) {
	for begin, text := range map[string]string{"http://x/a/": "", "http://x/": "/", "http://x/a/b?": "?", "http://x/a/b?q#": "#", "http://y/": "//y/"} {
		room := impl.TextMax - len(begin)
		full := strings.Repeat("c", room)
		leads(t, "http://x/a/b?q", text+full, begin+full)
		leads(t, "http://x/a/b?q", text+full+"c", "")
		leads(t, "http://x/a/b?q", text+full[1:]+"\xff", "")
		leads(t, "http://x/a/b?q", text+full[3:]+"\xff", begin+full[3:]+"%FF")
	}
	full := "x:" + strings.Repeat("y", impl.TextMax-3)
	leads(t, full, "#", full+"#")
	leads(t, full, "#a", "")
	leads(t, "x:y", strings.Repeat("c", 50)+":"+strings.Repeat("\xff", 50), "")
}

func TestPromise55LimitOfPieces(t *testing.T) {
	root, most := "http://x", strings.Repeat("/a", impl.SegMax)
	leads(t, root+"/b/c", most, root+most)
	leads(t, root+"/b/c", most+"/", "")
	leads(t, root+"/b/c", most+"/a", "")
	leads(t, root+most, "b", root+most[2:]+"/b")
	leads(t, root+most, "b/", "")
	leads(t, root+most, "b/c", "")
	leads(t, root+most, "b/..", root+most[2:]+"/")
	leads(t, root+most, "b/../c", root+most[2:]+"/c")
	leads(t, root+most, "./", root+most[2:]+"/")
	leads(t, root+most, "../b/c", root+most[4:]+"/b/c")
	leads(t, root+most, "../b/c/d", "")
	leads(t, root+most[2:]+"?q", "b/c", root+most[4:]+"/b/c")
	leads(t, root+most, "//y"+most, "http://y"+most)
	leads(t, root+most, "//y"+most+"/a", "")
}

func TestPromise56ASlashAhead(t *testing.T) {
	m := &maker{state: 56}
	for range 5000 {
		u := anyPage(m)
		root := u
		root.Path, root.HasQuery, root.Query, root.HasFrag, root.Frag = []string{""}, false, "", false, ""
		text := m.pick([]string{"/", "\\"}) + anyRelative(m)
		want, _ := impl.UrlJoin(root, text)
		joins(t, u, text, want)
	}
	for _, from := range []string{"http://x/", "http://x/a", "http://x/a/b/?q#f", "http://x//a/"} {
		leads(t, from, "/", "http://x/")
		leads(t, from, "\\", "http://x/")
		leads(t, from, "/c", "http://x/c")
		leads(t, from, "\\c\\d/", "http://x/c/d/")
		leads(t, from, "/../c/./d/..?r#g", "http://x/c/?r#g")
		leads(t, from, "/?", "http://x/?")
		leads(t, from, "/#", "http://x/#")
		leads(t, from, "/c d`", "http://x/c%20d%60")
	}
}

func TestPromise57StepsBack(t *testing.T) {
	m := &maker{state: 57}
	for range 3000 {
		u := anyPage(m)
		here, _ := impl.UrlJoin(u, m.pick([]string{".", "./", "%2e", "%2E", ".\\"}))
		want := impl.UrlBase(u)
		want.HasQuery, want.Query = false, ""
		want.Path[len(want.Path)-1] = ""
		if !sameUrl(here, want) {
			t.Fatalf("%+v: %+v", u, here)
		}
		back, _ := impl.UrlJoin(u, m.pick([]string{"..", "../", "%2e.", ".%2E", "%2e%2e", "..\\"}))
		want.Path = append(slices.Clone(u.Path[:max(len(u.Path)-2, 0)]), "")
		if !sameUrl(back, want) || len(back.Path) != max(len(u.Path)-1, 1) {
			t.Fatalf("%+v: %+v", u, back)
		}
	}
	for text, want := range map[string]string{
		".": "/a/b/", "./": "/a/b/", "./.": "/a/b/", "..": "/a/", "../": "/a/", "./..": "/a/", "../.": "/a/", "../..": "/", "../../..": "/", "../../../": "/",
		"../d": "/a/d", "../../d": "/d", "../../../../d": "/d", "d": "/a/b/d", "d/": "/a/b/d/", "d/..": "/a/b/", "d/../..": "/a/", "d/../e": "/a/b/e", "...": "/a/b/...",
		"..d": "/a/b/..d", "..?r": "/a/?r", ".#g": "/a/b/#g", "..\\..\\d": "/d", "%2E%2e/d": "/a/d", "..//d": "/a//d", "d//..": "/a/b/d/", "../\\..": "/a/",
	} {
		leads(t, "http://x/a/b/c?q#f", text, "http://x"+want)
	}
	leads(t, "http://x/a/b/", "..", "http://x/a/")
	leads(t, "http://x/a/b/", ".", "http://x/a/b/")
	leads(t, "http://x", "..", "http://x/")
	leads(t, "http://x?q", ".", "http://x/")
}

func TestPromise58TwoSlashesLeaveTheScheme(t *testing.T) {
	m := &maker{state: 58}
	for range 5000 {
		u := anyPage(m)
		text := "//c.com/" + strings.TrimSpace(m.pick([]string{anyRelative(m), m.text(20, mixed()), strings.Repeat("a/../", m.below(50))}))
		if whole := u.Scheme + ":" + text; len(whole) <= impl.TextMax {
			want, _ := impl.UrlGet(whole)
			joins(t, u, text, okOrNone(want))
		}
		joins(t, u, text, joinTold(u, text))
	}
	for text, want := range map[string]string{
		"//c.com":            "//c.com/",
		"//c.com/":           "//c.com/",
		"//c.com?r":          "//c.com/?r",
		"//c.com#g":          "//c.com/#g",
		"//v:w@C.com:81/d/.": "//v:w@c.com:81/d/",
		"////c.com":          "//c.com/",
		"//1.2":              "//1.0.0.2/",
		"//c.com:80":         "//c.com:80/",
		" //c.com ":          "//c.com/",
	} {
		leads(t, "https://u:p@x:444/a/b?q#f", text, "https:"+want)
	}
	leads(t, "http://u:p@x:81/a", "//c.com:80", "http://c.com/")
	leads(t, "http://u:p@x:81/a", "//c.com:443", "http://c.com:443/")
	for _, none := range []string{"//", "///", "//?q", "//#f", "//a..b/", "//@/", "//:80", "//c.com:65536", "//256.256", "//a b/"} {
		leads(t, "https://u:p@x:444/a/b?q#f", none, "")
	}
}

// The scheme of the base does not count to how long a text may be.
func TestPromise58LimitOfTheTextAlone(t *testing.T) {
	steps := strings.Repeat("./", impl.TextMax)
	slashes := strings.Repeat("/\\", impl.TextMax)
	for _, scheme := range []string{"http", "https"} {
		from := scheme + "://x/a/b"
		for long := impl.TextMax - 12; long <= impl.TextMax+12; long++ {
			for text, want := range map[string]string{
				"//y/" + steps[:long-4]:                                 "://y/",
				"//y/" + strings.Repeat("c/../", 30) + steps[:long-154]: "://y/",
				slashes[:long-5] + "c.com":                              "://c.com/",
				slashes[:long-9] + "c.com?q#f":                          "://c.com/?q#f",
				"//c.com:" + strings.Repeat("0", long-10) + "81":        "://c.com:81/",
				"//c.com/x?q#f" + strings.Repeat(" ", long-13):          "://c.com/x?q#f",
				strings.Repeat("\n", long-13) + "//c.com/x?q#f":         "://c.com/x?q#f",
				"/" + strings.Repeat("\t", long-7) + "/c.com":           "://c.com/",
			} {
				if len(text) != long {
					t.Fatalf("%q has %d bytes, not %d", text, len(text), long)
				}
				if long <= impl.TextMax {
					leads(t, from, text, scheme+want)
				} else {
					leads(t, from, text, "")
				}
			}
		}
	}
}

// What is written has the scheme, and is no longer than a text even so.
func TestPromise58LimitOfWhatIsWritten(t *testing.T) {
	for _, scheme := range []string{"http", "https"} {
		for _, begin := range []string{"//y/", "//y/?", "//y/#", "//u@y/", "//y/a/b?q#"} {
			room := impl.TextMax - len(scheme) - 1 - len(begin)
			full := begin + strings.Repeat("c", room)
			leads(t, scheme+"://x/a/b", full, scheme+":"+full)
			leads(t, scheme+"://x/a/b", "//"+full, scheme+":"+full)
			leads(t, scheme+"://x/a/b", full+"c", "")
			leads(t, scheme+"://x/a/b", full+strings.Repeat("c", len(scheme)+1), "")
		}
	}
}

func TestWatchTwoSlashesOfUnlikeKinds(t *testing.T) {
	for _, two := range []string{"//", "\\\\", "/\\", "\\/", "/\n\\", "\\\t/"} {
		leads(t, "https://u:p@x:444/a/b?q#f", two+"c.com", "https://c.com/")
		leads(t, "https://u:p@x:444/a/b?q#f", two+"c.com\\d/e?r#g", "https://c.com/d/e?r#g")
		leads(t, "https://u:p@x:444/a/b?q#f", two+two+"c.com/", "https://c.com/")
		leads(t, "https://u:p@x:444/a/b?q#f", two, "")
		leads(t, "https://u:p@x:444/a/b?q#f", two+"a..b", "")
		leads(t, "x:y", two+"c.com", "")
	}
	leads(t, "https://x/a/b", "./\\c.com", "https://x/a//c.com")
	leads(t, "https://x/a/b", "?/\\c.com", "https://x/a/b?/\\c.com")
	leads(t, "https://x/a/b", "#\\/c.com", "https://x/a/b#\\/c.com")
	leads(t, "https://x/a/b", "/.\\/c.com", "https://x//c.com")
	leads(t, "https://x/a/b", "c/\\d", "https://x/a/c//d")
	leads(t, "https://x/a/b", "/ /c.com", "https://x/%20/c.com")
}

func TestWatchAnEmptyPath(t *testing.T) {
	for text, want := range map[string]string{
		"": "http://x/a/b?q", "#": "http://x/a/b?q#", "#g": "http://x/a/b?q#g", "?": "http://x/a/b?", "?r": "http://x/a/b?r", "?#": "http://x/a/b?#", "?#g": "http://x/a/b?#g",
		"?r#g": "http://x/a/b?r#g", "\n#g": "http://x/a/b?q#g", "\n?r": "http://x/a/b?r", " \t": "http://x/a/b?q", "#?r": "http://x/a/b?q#?r",
	} {
		leads(t, "http://x/a/b?q#f", text, want)
	}
	for text, want := range map[string]string{"": "http://x/", "#g": "http://x/#g", "?r": "http://x/?r"} {
		leads(t, "http://x", text, want)
	}
	leads(t, "http://x/a/b/?#f", "", "http://x/a/b/?")
	leads(t, "http://x/a/b/?#f", "#g", "http://x/a/b/?#g")
	leads(t, "http://x/a//?q", "?r", "http://x/a//?r")
	leads(t, "http://x/a/b?q#f", ".", "http://x/a/")
	leads(t, "http://x/a/b?q#f", "%20", "http://x/a/%20")
}

func TestWatchAPathThatBeginsWithAnEmptyPiece(t *testing.T) {
	for _, to := range []string{"http://x//", "http://x//a", "http://x///", "http://x//c.com/a?q#f", "http://x//../a/.."} {
		u := urlOf(t, to)
		for _, from := range []string{"http://x/", "http://x/a/b", "http://x//c", "https://x/", "about:blank"} {
			text := impl.UrlLess(urlOf(t, from), u)
			leads(t, from, text, impl.UrlPut(u))
			if u.Path[0] == "" && len(u.Path) > 1 {
				sameText(t, to, text, impl.UrlPut(u))
			}
		}
	}
	sameText(t, "the root", impl.UrlLess(urlOf(t, "http://x/a"), urlOf(t, "http://x/")), "/")
	sameText(t, "empty behind", impl.UrlLess(urlOf(t, "http://x/a"), urlOf(t, "http://x/b//c")), "/b//c")
	sameText(t, "an end", impl.UrlLess(urlOf(t, "http://x//a"), urlOf(t, "http://x//a#f")), "#f")
	sameText(t, "itself", impl.UrlLess(urlOf(t, "http://x//a#f"), urlOf(t, "http://x//a")), "http://x//a")
	leads(t, "http://x//a", "b", "http://x//b")
	leads(t, "http://x//a", ".", "http://x//")
	leads(t, "http://x//a", "..", "http://x/")
	leads(t, "http://x//a", "../b", "http://x/b")
	leads(t, "http://x//a", "?r", "http://x//a?r")
	leads(t, "http://x//", "", "http://x//")
	leads(t, "http://x//a", "/.//b", "http://x//b")
	leads(t, "http://x/a", ".//b", "http://x//b")
}

func TestRelativeOnesAreNewMemory(t *testing.T) {
	base := urlOf(t, "http://x/a/b/c?q")
	room := append(slices.Clone(base.Path), "behind", "the end")
	kept := slices.Clone(room)
	base.Path = room[:3]
	for _, text := range []string{"", "#f", "?r", "d", "d/e/f", "..", "../d", ".", "/d", "//y/d", "http://y/d/e", "d/e/f/g/h/i"} {
		u, ok := impl.UrlJoin(base, text)
		if !ok {
			t.Errorf("%q leads nowhere", text)
		}
		clear(u.Path[:cap(u.Path)])
		impl.UrlLess(base, base)
		if !slices.Equal(room, kept) {
			t.Fatalf("%q: %q, not %q", text, room, kept)
		}
	}
}
