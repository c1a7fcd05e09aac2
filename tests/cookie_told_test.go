package tests

import (
	"regexp"
	"slices"
	"strconv"
	"strings"

	"loop.example/guilloche/impl"
)

// What follows tells chapter 7 a second time, by patterns, and from the last part of a text to the first.

var (
	crumbForm = regexp.MustCompile(`^[!#-+\--:<>-~]{0,20}$`)
	fourForm  = regexp.MustCompile(`^(0|[1-9][0-9]{0,2})\.(0|[1-9][0-9]{0,2})\.(0|[1-9][0-9]{0,2})\.(0|[1-9][0-9]{0,2})$`)
	partForm  = regexp.MustCompile(`(?s)^ *([^=]*?) *(?:= *(.*?) *)?$`)
	ageForm   = regexp.MustCompile(`^[0-9]{1,7}$`)
)

// hostNameTold says whether a text is a name of a host.
func hostNameTold(text string) bool {
	h, ok := impl.HostGet(text)
	return ok && h == named(text)
}

// fourTold says whether a text is an address of four bytes, as it is written.
func fourTold(text string) bool {
	parts := fourForm.FindStringSubmatch(text)
	return parts != nil && !slices.ContainsFunc(parts[1:], func(part string) bool {
		n, _ := strconv.Atoi(part)
		return n > 255
	})
}

// domainInTold looks behind each point of a host.
func domainInTold(host string, domain string) bool {
	if domain == "" || host == domain {
		return domain != ""
	}
	for i := range len(host) {
		if host[i] == '.' && host[i+1:] == domain {
			return hostNameTold(host)
		}
	}
	return false
}

func pathInTold(path string, below string) bool {
	return below != "" && (path == below || strings.HasPrefix(path, strings.TrimSuffix(below, "/")+"/"))
}

// pathTextTold is an address's path, cut out of what is written of it.
func pathTextTold(u impl.Url) string {
	text := strings.TrimPrefix(impl.UrlPut(u), u.Scheme+"://")
	text = text[strings.IndexByte(text, '/'):]
	if end := strings.IndexAny(text, "?#"); end >= 0 {
		return text[:end]
	}
	return text
}

func pathOfTold(u impl.Url) string {
	if !impl.UrlOk(u) || u.Host == (impl.Host{}) {
		return "/"
	}
	pieces := strings.Split(pathTextTold(u), "/")
	if len(pieces) == 2 {
		return "/"
	}
	if path := strings.Join(pieces[:len(pieces)-1], "/"); path != "" {
		return path
	}
	return "/"
}

func prefixTold(c impl.Cookie) bool {
	host, secure := strings.HasPrefix(c.Name, "__Host-"), strings.HasPrefix(c.Name, "__Secure-")
	return (!host || c.Alone && c.Path == "/") && (!host && !secure || c.Safe)
}

func okCookieTold(c impl.Cookie) bool {
	for _, wrong := range []bool{
		c.Name == "", !crumbForm.MatchString(c.Name), !crumbForm.MatchString(c.Value),
		!hostNameTold(c.Domain) && !(c.Alone && fourTold(c.Domain)),
		len(c.Path) < 1, len(c.Path) > 200, c.Path != "" && c.Path[0] != '/',
		!prefixTold(c),
		c.Until < 0, c.Until > 2000001, c.Made < 0, c.Made > 1000000,
		c.Same != 0 && c.Same != 1 && c.Same != 2, c.Same == 0 && !c.Safe,
	} {
		if wrong {
			return false
		}
	}
	return true
}

// endedTold asks for nothing that could wrap round.
func endedTold(c impl.Cookie, now int) bool {
	return c.Until > 0 && now >= c.Until-1
}

// lastTold is the last value of a name that a text tells behind its first part, of those that count.
func lastTold(text string, name string, counts func(value string) bool) (string, bool) {
	pieces := strings.Split(text, ";")
	for i := len(pieces) - 1; i > 0; i-- {
		part := partForm.FindStringSubmatch(pieces[i])
		if strings.Map(smallTold, part[1]) == name && counts(part[2]) {
			return part[2], true
		}
	}
	return "", false
}

// smallTold leaves all but the twenty-six letters: other capitals are no letters here.
func smallTold(r rune) rune {
	if r >= 'A' && r <= 'Z' {
		return r + 32
	}
	return r
}

// readTold is what a text tells of a cookie, ok or not.
func readTold(u impl.Url, text string, now int) impl.Cookie {
	first := partForm.FindStringSubmatch(strings.Split(text, ";")[0])
	c := impl.Cookie{Name: first[1], Value: first[2], Domain: impl.HostPut(u.Host), Alone: true, Path: pathOfTold(u), Same: 1, Made: now}
	if v, ok := lastTold(text, "domain", func(v string) bool { return v != "" }); ok {
		c.Domain, c.Alone = strings.TrimPrefix(impl.Lower(v), "."), false
	}
	if v, ok := lastTold(text, "path", func(v string) bool { return strings.HasPrefix(v, "/") }); ok {
		c.Path = v
	}
	age := func(v string) int { n, _ := strconv.Atoi(v); return n }
	if v, ok := lastTold(text, "max-age", func(v string) bool { return ageForm.MatchString(v) && age(v) <= 1000000 }); ok {
		c.Until = now + age(v) + 1
	}
	_, c.Safe = lastTold(text, "secure", func(string) bool { return true })
	kinds := map[string]int{"none": 0, "strict": 2}
	if v, ok := lastTold(text, "samesite", func(v string) bool { _, told := kinds[impl.Lower(v)]; return told }); ok {
		c.Same = kinds[impl.Lower(v)]
	}
	return c
}

func getTold(u impl.Url, text string, now int) (impl.Cookie, int) {
	if !impl.UrlOk(u) || u.Host == (impl.Host{}) || len(text) > 200 || now < 0 || now > 1000000 {
		return impl.Cookie{}, 1
	}
	c := readTold(u, text, now)
	points := strings.Count(strings.TrimSuffix(c.Domain, "."), ".")
	for _, x := range []struct {
		code  int
		wrong bool
	}{
		{1, c.Name == "" || !crumbForm.MatchString(c.Name) || !crumbForm.MatchString(c.Value)},
		{2, !c.Alone && (!domainInTold(impl.HostPut(u.Host), c.Domain) || points == 0)},
		{3, c.Safe && u.Scheme == "http" || c.Same == 0 && !c.Safe},
		{4, !prefixTold(c)},
		{1, !okCookieTold(c)},
	} {
		if x.wrong {
			return impl.Cookie{}, x.code
		}
	}
	return c, 0
}

func goesTold(c impl.Cookie, u impl.Url, within bool, own bool, now int) bool {
	if !okCookieTold(c) || !impl.UrlOk(u) || u.Host == (impl.Host{}) || endedTold(c, now) {
		return false
	}
	host := impl.HostPut(u.Host)
	there := host == c.Domain || !c.Alone && domainInTold(host, c.Domain)
	with := []bool{true, within || own, within}[c.Same]
	return there && with && (!c.Safe || u.Scheme == "https") && pathInTold(pathTextTold(u), c.Path)
}

// rankTold is what no two cookies have in common.
func rankTold(c impl.Cookie) string {
	return strings.Join([]string{c.Name, c.Domain, strconv.FormatBool(c.Alone), c.Path}, "\n")
}

func jarTold(jar []impl.Cookie) bool {
	ranks := map[string]bool{}
	for _, c := range jar {
		if !okCookieTold(c) {
			return false
		}
		ranks[rankTold(c)] = true
	}
	return len(ranks) == len(jar) && len(jar) <= 10
}

func jarPutTold(jar []impl.Cookie, c impl.Cookie, now int) []impl.Cookie {
	if !jarTold(jar) {
		return nil
	}
	if !okCookieTold(c) {
		return jar
	}
	list := slices.Clone(jar)
	if at := slices.IndexFunc(list, func(x impl.Cookie) bool { return rankTold(x) == rankTold(c) }); at >= 0 {
		c.Made = list[at].Made
		list = slices.Delete(list, at, at+1)
	}
	list = slices.DeleteFunc(append(list, c), func(x impl.Cookie) bool { return endedTold(x, now) })
	if len(list) == 11 {
		made := []int{}
		for _, x := range list {
			made = append(made, x.Made)
		}
		at := slices.Index(made, slices.Min(made))
		list = slices.Delete(list, at, at+1)
	}
	return list
}

func jarSetTold(jar []impl.Cookie, u impl.Url, text string, now int) ([]impl.Cookie, int) {
	if !jarTold(jar) {
		return nil, 1
	}
	c, code := getTold(u, text, now)
	if code != 0 {
		return jar, code
	}
	return jarPutTold(jar, c, now), 0
}

// jarForTold takes, again and again, what is to go next.
func jarForTold(jar []impl.Cookie, u impl.Url, within bool, own bool, now int) []impl.Cookie {
	var list []impl.Cookie
	if !jarTold(jar) {
		return nil
	}
	left := slices.Clone(jar)
	for {
		next := -1
		for i, c := range left {
			if !goesTold(c, u, within, own, now) {
				continue
			}
			if next < 0 || len(c.Path) > len(left[next].Path) || len(c.Path) == len(left[next].Path) && c.Made < left[next].Made {
				next = i
			}
		}
		if next < 0 {
			return list
		}
		list = append(list, left[next])
		left = slices.Delete(left, next, next+1)
	}
}

func jarTextTold(jar []impl.Cookie) string {
	if !jarTold(jar) {
		return ""
	}
	words := []string{}
	for _, c := range jar {
		words = append(words, c.Name+"="+c.Value)
	}
	return strings.Join(words, "; ")
}

func jarCleanTold(jar []impl.Cookie, now int, end bool) []impl.Cookie {
	if !jarTold(jar) {
		return nil
	}
	return slices.DeleteFunc(slices.Clone(jar), func(c impl.Cookie) bool { return endedTold(c, now) || end && c.Until == 0 })
}
