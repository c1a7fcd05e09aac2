package tests

import (
	"encoding/hex"
	"fmt"
	"regexp"
	"slices"
	"strconv"
	"strings"
	"testing"

	"loop.example/guilloche/impl"
)

// What follows tells chapter 9 a second time, what is saved by patterns of whole lines.

const (
	numberForm = `(0|[1-9][0-9]{0,8})`
	bytesForm  = `(-|(?:[0-9a-f]{2})+)`
)

var (
	windowForm = regexp.MustCompile(`^window ` + numberForm + ` ` + numberForm + ` ` + numberForm + `$`)
	frameForm  = regexp.MustCompile(`^frame ` + numberForm + ` (-|[a-z]{1,8}) (asks|free)$`)
	entryForm  = regexp.MustCompile(`^entry ` + numberForm + ` ` + numberForm + ` ` + numberForm + ` ` + bytesForm + ` ([^ \n]+)$`)
	cookieForm = regexp.MustCompile(`^([^ \n]+) ` + bytesForm + ` ([a-z0-9._-]+) ([01]) ` + bytesForm + ` ` + numberForm + ` ([01]) ([012]) ` + numberForm + `$`)
)

// emptyTold stands for what is empty.
func emptyTold(text string) string {
	if text == "" {
		return "-"
	}
	return text
}

func bytesTold(text string) string {
	return emptyTold(fmt.Sprintf("%x", text))
}

func bytesReadTold(word string) string {
	text, _ := hex.DecodeString(strings.Trim(word, "-"))
	return string(text)
}

func numberTold(word string) int {
	number, _ := strconv.Atoi(word)
	return number
}

func windowPutTold(w impl.Window) string {
	if !okTold(w) {
		return ""
	}
	text := fmt.Sprintln("window", w.Step, w.NextDoc, w.NextKey)
	for _, f := range w.Frames {
		text += fmt.Sprintln("frame", f.Within, emptyTold(f.Name), map[bool]string{true: "asks", false: "free"}[f.Asks])
		for _, e := range f.Hist {
			text += fmt.Sprintln("entry", e.Step, e.Doc, e.Key, bytesTold(e.State), impl.UrlPut(e.Url))
		}
	}
	return text
}

// linesTold are lines that all end; false if the last one does not.
func linesTold(text string) ([]string, bool) {
	if text == "" {
		return nil, true
	}
	lines := strings.Split(text, "\n")
	last := len(lines) - 1
	return lines[:last], lines[last] == ""
}

func windowGetTold(text string) (impl.Window, bool) {
	lines, ok := linesTold(text)
	if !ok || len(lines) == 0 || !windowForm.MatchString(lines[0]) {
		return impl.Window{}, false
	}
	first := windowForm.FindStringSubmatch(lines[0])
	w := impl.Window{Step: numberTold(first[1]), NextDoc: numberTold(first[2]), NextKey: numberTold(first[3])}
	for _, line := range lines[1:] {
		frame, e := frameForm.FindStringSubmatch(line), entryForm.FindStringSubmatch(line)
		if frame != nil {
			w.Frames = append(w.Frames, impl.Frame{Within: numberTold(frame[1]), Name: strings.Trim(frame[2], "-"), Asks: frame[3] == "asks"})
			continue
		}
		last := len(w.Frames) - 1
		if e == nil || last < 0 {
			return impl.Window{}, false
		}
		u, ok := impl.UrlGet(e[5])
		if !ok || impl.UrlPut(u) != e[5] {
			return impl.Window{}, false
		}
		w.Frames[last].Hist = append(w.Frames[last].Hist, impl.Entry{Step: numberTold(e[1]), Url: u, Doc: numberTold(e[2]), Key: numberTold(e[3]), State: bytesReadTold(e[4])})
	}
	if !okTold(w) {
		return impl.Window{}, false
	}
	return w, true
}

func jarSaveTold(jar []impl.Cookie) string {
	if !jarTold(jar) {
		return ""
	}
	yes := map[bool]int{true: 1}
	text := ""
	for _, c := range jar {
		text += fmt.Sprintln(c.Name, bytesTold(c.Value), c.Domain, yes[c.Alone], bytesTold(c.Path), c.Until, yes[c.Safe], c.Same, c.Made)
	}
	return text
}

func jarLoadTold(text string) ([]impl.Cookie, bool) {
	lines, ok := linesTold(text)
	var jar []impl.Cookie
	for _, line := range lines {
		c := cookieForm.FindStringSubmatch(line)
		if c == nil {
			return nil, false
		}
		jar = append(jar, impl.Cookie{Name: c[1], Value: bytesReadTold(c[2]), Domain: c[3], Alone: c[4] == "1", Path: bytesReadTold(c[5]), Until: numberTold(c[6]), Safe: c[7] == "1", Same: numberTold(c[8]), Made: numberTold(c[9])})
	}
	if !ok || !jarTold(jar) {
		return nil, false
	}
	return jar, true
}

// bent is a text with some bytes, or lines, changed; sometimes with none.
func bent(m *maker, text string) string {
	for range m.below(3) {
		lines := strings.SplitAfter(text, "\n")
		one, two, at := m.below(len(lines)), m.below(len(lines)), m.below(len(text)+1)
		switch m.below(7) {
		case 0:
			text = text[:at] + m.pick([]string{" ", "\n", "-", "0", "1", "9", "a", "A", "f", "\r", "+", "\x00", "http://"}) + text[at:]
		case 1:
			text = text[:at] + strings.TrimPrefix(text[at:], text[at:min(at+1, len(text))])
		case 2:
			lines[one], lines[two] = lines[two], lines[one]
			text = strings.Join(lines, "")
		case 3:
			text = strings.Join(slices.Delete(lines, one, one+1), "")
		case 4:
			text = strings.Join(slices.Insert(lines, one, lines[two]), "")
		case 5:
			text = strings.Replace(text, m.pick([]string{"free", "asks", " 1 ", " 0 ", "frame", "-", "http", "2", "6"}), m.pick([]string{"free", "asks", " 1 ", " 0 ", "entry", "-", "https", "3", "7"}), 1)
		case 6:
			text = strings.ToUpper(text[:at]) + text[at:]
		}
	}
	return text
}

func browserTold(b impl.Browser) bool {
	return okTold(b.Window) && jarTold(b.Jar) && sureTold(b.Sure) && b.Now >= 0 && b.Now <= 1000000
}

func sameBrowser(a impl.Browser, b impl.Browser) bool {
	return sameWindow(a.Window, b.Window) && slices.Equal(a.Jar, b.Jar) && sameSure(a.Sure, b.Sure) && a.Now == b.Now
}

// hereTold is the address of the page of a frame that is there.
func hereTold(w impl.Window, frame int) (impl.Url, bool) {
	if !thereTold(w, frame, w.Step) {
		return impl.Url{}, false
	}
	e, _ := entryTold(w.Frames[frame], w.Step)
	return e.Url, true
}

func browserGoTold(net []impl.Page, b impl.Browser, frame int, text string) (impl.Browser, int) {
	if !browserTold(b) || !netTold(net) {
		return impl.Browser{}, 1
	}
	from, there := hereTold(b.Window, frame)
	u, ok := impl.UrlJoin(from, text)
	switch {
	case !there:
		return b, 2
	case !ok:
		return b, 1
	}
	onPage := u.HasFrag && bareTold(u) == bareTold(from)
	if u.Host != (impl.Host{}) && !onPage {
		got, code := fetchTold(net, b.Sure, b.Jar, from, u, b.Now)
		u, b.Jar = got.Url, got.Jar
		if code > 0 {
			return b, 10 + code
		}
	}
	w, code := goTold(b.Window, frame, u, false)
	b.Window = w
	return b, code
}

func browserByTold(b impl.Browser, by int) (impl.Browser, int) {
	if !browserTold(b) {
		return impl.Browser{}, 1
	}
	w, code := byTold(b.Window, by)
	b.Window = w
	return b, code
}

// browserTickTold asks for nothing that could wrap round.
func browserTickTold(b impl.Browser, ticks int) impl.Browser {
	if !browserTold(b) {
		return impl.Browser{}
	}
	if ticks >= 0 && ticks <= 1000000 && b.Now+ticks <= 1000000 {
		b.Now += ticks
		b.Jar = jarCleanTold(b.Jar, b.Now, false)
	}
	return b
}

func browserTellTold(b impl.Browser, frame int, text string) string {
	from, there := hereTold(b.Window, frame)
	u, ok := impl.UrlJoin(from, text)
	if !browserTold(b) || !there || !ok || u.Host == (impl.Host{}) {
		return ""
	}
	to := sureUrlTold(b.Sure, u)
	within := from.Scheme == to.Scheme && from.Host != (impl.Host{}) && impl.HostSite(from.Host) == impl.HostSite(to.Host)
	return jarTextTold(jarForTold(b.Jar, to, within, false, b.Now))
}

func browserAgainTold(b impl.Browser) impl.Browser {
	if !browserTold(b) {
		return impl.Browser{}
	}
	b.Window = copiedWindow(b.Window)
	for i := range b.Window.Frames {
		b.Window.Frames[i].Asks = false
	}
	b.Jar = jarCleanTold(b.Jar, b.Now, true)
	return b
}

// browserOf is a browser at an address.
func browserOf(t *testing.T, text string, jar ...impl.Cookie) impl.Browser {
	t.Helper()
	b, ok := impl.BrowserNew(urlOf(t, text))
	if !ok {
		t.Fatal(text)
	}
	b.Jar = jar
	return b
}

// anyBrowser is one that is ok, behind some steps of its window.
func anyBrowser(t *testing.T, m *maker) impl.Browser {
	t.Helper()
	b := impl.Browser{Window: played(t, m, m.below(12)), Jar: anyJar(m), Sure: anySure(m), Now: m.below(12)}
	for !impl.SureOk(b.Sure) {
		b.Sure = anySure(m)
	}
	if m.below(20) == 0 {
		b.Now = impl.AgeMax - m.below(4)
	}
	return b
}

// wrongBrowsers are browsers that are not ok, each for one reason alone.
func wrongBrowsers(t *testing.T) map[string]impl.Browser {
	t.Helper()
	all := map[string]impl.Browser{"nothing": {}}
	wrong := func(why string, change func(b *impl.Browser)) {
		b := impl.Browser{Window: grown(t), Jar: jarOf(1, 2), Sure: sureOf("b.com"), Now: 5}
		change(&b)
		all[why] = b
	}
	for why, w := range wrongWindows(t) {
		wrong("a window: "+why, func(b *impl.Browser) { b.Window = w })
	}
	for why, jar := range wrongJars() {
		wrong("cookies: "+why, func(b *impl.Browser) { b.Jar = jar })
	}
	for why, s := range wrongSures() {
		wrong("hosts: "+why, func(b *impl.Browser) { b.Sure = s })
	}
	wrong("a time below 0", func(b *impl.Browser) { b.Now = -1 })
	wrong("a time too late", func(b *impl.Browser) { b.Now = impl.AgeMax + 1 })
	return all
}
