package tests

import (
	"fmt"
	"regexp"
	"strconv"
	"strings"

	"loop.example/guilloche/impl"
)

// What follows tells chapter 10 a second time: a window's frames by where their lines stand, and lines by patterns.

// pathFromTop is places from the top on, down to a frame.
func pathFromTop(w impl.Window, place int) []int {
	if place == 0 {
		return []int{0}
	}
	return append(pathFromTop(w, overTold(w, w.Frames[place].Within)), place)
}

// showTold goes down frame by frame with a list of those that are still to be told.
func showTold(w impl.Window) string {
	if !okTold(w) {
		return ""
	}
	var out strings.Builder
	left := []int{0}
	for len(left) > 0 {
		place := left[0]
		left = append(withinTold(w, place), left[1:]...)
		e, _ := entryTold(w.Frames[place], w.Step)
		fmt.Fprintf(&out, "%*s%d %s %s doc %d key %d", 2*len(pathFromTop(w, place))-2, "", place, w.Frames[place].Name, impl.UrlPut(e.Url), e.Doc, e.Key)
		if len(e.State) > 0 {
			out.WriteString(" state " + e.State)
		}
		if w.Frames[place].Asks {
			out.WriteString(" asks")
		}
		out.WriteString("\n")
	}
	steps := stepsTold(w)
	fmt.Fprintf(&out, "step %d of %d\n", w.Step, steps[len(steps)-1])
	return out.String()
}

func doTold(w impl.Window, e impl.Event) (impl.Window, int) {
	if !okTold(w) {
		return impl.Window{}, 1
	}
	kinds := map[int]move{
		1: {what: toGo, frame: e.Frame, u: e.Url, replace: e.Replace},
		2: {what: toFrame, frame: e.Frame, u: e.Url, text: e.Name},
		3: {what: toState, frame: e.Frame, u: e.Url, text: e.State, replace: e.Replace},
		4: {what: toBy, by: e.By},
		5: {what: toKey, frame: e.Frame, by: e.Key},
		6: {what: toAsk, frame: e.Frame, replace: true},
		7: {what: toAsk, frame: e.Frame},
	}
	v, known := kinds[e.Kind]
	if !known {
		return w, 1
	}
	return v.told(w)
}

var (
	placeForm = regexp.MustCompile(`^0*([0-9]{1,4})$`)
	backForm  = regexp.MustCompile(`^-0*([1-9][0-9]?)$`)
	lineForms = map[string]*regexp.Regexp{}
)

func init() {
	for name, form := range map[string]string{
		"open": "URL", "go": "N URL", "set": "N URL", "frame": "N WORD URL", "state": "N URL WORD", "keep": "N URL WORD",
		"by": "N", "key": "N N", "ask": "N", "free": "N", "show": "", "near": "N", "find": "N WORD", "url": "URL",
	} {
		for _, word := range []string{"N", "URL", "WORD"} {
			form = regexp.MustCompile(`\b`+word+`\b`).ReplaceAllString(form, `([^ ]*)`)
		}
		lineForms[name] = regexp.MustCompile(`(?s)^` + strings.TrimSpace(name+" "+form) + `$`)
	}
}

func placeTold(word string) int {
	if !placeForm.MatchString(word) {
		return 1000
	}
	number, _ := strconv.Atoi(placeForm.FindStringSubmatch(word)[1])
	return number
}

func stepTold(word string) int {
	if back := backForm.FindStringSubmatch(word); back != nil {
		number, _ := strconv.Atoi(back[1])
		return -number
	}
	return placeTold(word)
}

func answerTold(code int) string {
	return map[bool]string{true: "ok\n", false: fmt.Sprintf("no %d\n", code)}[code == 0]
}

func sessionTold(lines []string) string {
	blank, _ := impl.UrlGet("about:blank")
	w, _ := impl.WindowNew(blank)
	out := ""
	for i, line := range lines {
		if i == 40 {
			break
		}
		next, answer := lineTold(w, line)
		w = next
		out += answer
	}
	return out
}

func lineTold(w impl.Window, line string) (impl.Window, string) {
	name, _, _ := strings.Cut(line, " ")
	form, known := lineForms[name]
	if !known || !form.MatchString(line) {
		return w, "what\n"
	}
	words := append(form.FindStringSubmatch(line), "", "", "")[1:4]
	switch name {
	case "open":
		u, _ := impl.UrlGet(words[0])
		if next, ok := impl.WindowNew(u); ok {
			return next, "ok\n"
		}
		return w, "no 1\n"
	case "show":
		return w, showTold(w)
	case "near":
		return w, nearTold(w, placeTold(words[0]))
	case "find":
		return w, fmt.Sprintf("frame %d\n", findTold(w, placeTold(words[0]), words[1]))
	case "url":
		if u, ok := impl.UrlGet(words[0]); ok && impl.UrlOk(u) {
			return w, fmt.Sprintf("%s origin %s site %s\n", impl.UrlPut(u), impl.OriginPut(impl.OriginOf(u)), impl.HostSite(u.Host))
		}
		return w, "none\n"
	}
	return eventTold(w, name, words)
}

func eventTold(w impl.Window, name string, words []string) (impl.Window, string) {
	v, text, leads := move{frame: placeTold(words[0])}, words[1], true
	switch name {
	case "go", "set":
		v.what, v.replace = toGo, name == "set"
	case "frame":
		v.what, v.text, text = toFrame, words[1], words[2]
	case "state", "keep":
		v.what, v.text, v.replace = toState, words[2], name == "keep"
	case "by":
		v.what, v.by, leads = toBy, stepTold(words[0]), false
	case "key":
		v.what, v.by, leads = toKey, placeTold(words[1]), false
	default:
		v.what, v.replace, leads = toAsk, name == "ask", false
	}
	if leads {
		from, there := hereTold(w, v.frame)
		u, ok := impl.UrlJoin(from, text)
		if !there || !ok {
			return w, "what\n"
		}
		v.u = u
	}
	next, code := v.told(w)
	return next, answerTold(code)
}

func nearTold(w impl.Window, frame int) string {
	if !thereTold(w, frame, w.Step) {
		return "0 seen\n"
	}
	out := ""
	now, _ := entryTold(w.Frames[frame], w.Step)
	near, _ := impl.HistNear(w.Frames[frame].Hist, w.Step)
	for _, e := range near {
		out += fmt.Sprintf("%s%d %s\n", map[bool]string{true: "> ", false: "  "}[e.Key == now.Key], e.Key, impl.UrlPut(e.Url))
	}
	return out + fmt.Sprintf("%d seen\n", len(near))
}
