package impl

import (
	"strconv"
	"strings"
)

// Kinds of hosts.
const (
	HostNone = 0
	HostName = 1
	HostFour = 2
)

// Limits of hosts.
const (
	hostNameMax = 60
	fourMax     = 4294967295
)

// Host is a name, or an address of four bytes.
type Host struct {
	Kind int
	Name string
	Addr int
}

// hostForm is a host that is ok and not none: a hostNamed or a hostNumbered.
type hostForm interface {
	put() string
}

type hostNamed string

type hostNumbered int

// HostGet reads a host.
func HostGet(text string) (Host, bool) {
	if len(text) > TextMax {
		return Host{}, false
	}
	h := hostOf(hostRead(Lower(Decode(text))))
	return h, h.Kind != HostNone
}

// HostPut writes a host.
func HostPut(h Host) string {
	form := hostFormOf(h)
	if form == nil {
		return ""
	}
	return form.put()
}

// HostOk says whether a host is ok.
func HostOk(h Host) bool {
	return h == Host{} || hostFormOf(h) != nil
}

// HostSite is the part of a host's name that is of one owner: its last two labels.
func HostSite(h Host) string {
	return hostSiteOf(hostFormOf(h))
}

// FourGet reads an address of four bytes, in any of the ways that it is written.
func FourGet(text string) (int, bool) {
	if len(text) > TextMax {
		return 0, false
	}
	parts := hostParts(text)
	if len(parts) > 4 {
		return 0, false
	}
	addr := 0
	for i, part := range parts {
		bits := 8
		if i == len(parts)-1 {
			bits = 8 * (4 - i)
		}
		number, ok := partNumber(part)
		if !ok || number >= 1<<bits {
			return 0, false
		}
		addr = addr<<bits + number
	}
	return addr, true
}

// put copies, as an answer shares nothing with an argument.
func (f hostNamed) put() string {
	return strings.Clone(string(f))
}

func (f hostNumbered) put() string {
	var out strings.Builder
	for shift := 24; shift >= 0; shift -= 8 {
		out.WriteString(strconv.Itoa(int(f) >> shift & 255))
		if shift > 0 {
			out.WriteByte('.')
		}
	}
	return out.String()
}

// hostRead is the form of a text of small letters; nil if there is none.
func hostRead(text string) hostForm {
	if endsWithNumber(text) {
		if addr, ok := FourGet(text); ok {
			return hostNumbered(addr)
		}
	} else if isHostName(text) {
		return hostNamed(text)
	}
	return nil
}

// hostFormOf is the form of a host; nil if it is none, or not ok.
func hostFormOf(h Host) hostForm {
	switch h.Kind {
	case HostName:
		if h.Addr == 0 && isHostName(h.Name) && !endsWithNumber(h.Name) {
			return hostNamed(h.Name)
		}
	case HostFour:
		if h.Name == "" && h.Addr >= 0 && h.Addr <= fourMax {
			return hostNumbered(h.Addr)
		}
	}
	return nil
}

func hostOf(form hostForm) Host {
	switch f := form.(type) {
	case hostNamed:
		return Host{Kind: HostName, Name: string(f)}
	case hostNumbered:
		return Host{Kind: HostFour, Addr: int(f)}
	}
	return Host{}
}

func hostSiteOf(form hostForm) string {
	switch f := form.(type) {
	case hostNamed:
		parts := hostParts(string(f))
		last := len(parts) - 1
		if last == 0 {
			return strings.Clone(parts[last])
		}
		return parts[last-1] + "." + parts[last]
	case hostNumbered:
		return f.put()
	}
	return ""
}

// hostParts leaves out the empty part behind a point at the end, so that it never counts as one.
func hostParts(text string) []string {
	parts := strings.Split(text, ".")
	if last := len(parts) - 1; last > 0 && parts[last] == "" {
		return parts[:last]
	}
	return parts
}

func isHostName(text string) bool {
	if len(text) < 1 || len(text) > hostNameMax {
		return false
	}
	for i := 0; i < len(text); i++ {
		b := text[i]
		if !isSmall(b) && !isFigure(b) && strings.IndexByte("-_.", b) < 0 {
			return false
		}
	}
	for _, part := range hostParts(text) {
		if part == "" {
			return false
		}
	}
	return true
}

// endsWithNumber does not ask for a number of figures to ten: what is too large, or wrong to eight, is no name either.
func endsWithNumber(text string) bool {
	parts := hostParts(text)
	last := parts[len(parts)-1]
	if isHex(last) {
		_, ok := partNumber(last)
		return ok
	}
	return last != "" && allFigures(last)
}

func allFigures(text string) bool {
	for i := 0; i < len(text); i++ {
		if !isFigure(text[i]) {
			return false
		}
	}
	return true
}

// numberUpTo stops at the first figure that makes too much, so that no number wraps round; of no figures it is 0.
func numberUpTo(figures string, most int) (int, bool) {
	number := 0
	for i := 0; i < len(figures); i++ {
		if !isFigure(figures[i]) {
			return 0, false
		}
		number = number*10 + int(figures[i]-'0')
		if number > most {
			return 0, false
		}
	}
	return number, true
}

func isHex(part string) bool {
	return strings.HasPrefix(part, "0x") || strings.HasPrefix(part, "0X")
}

// partNumber stops ahead of a figure that would make too much, so that no number wraps round.
func partNumber(part string) (int, bool) {
	if part == "" {
		return 0, false
	}
	base, figures := partBase(part)
	number := 0
	for i := 0; i < len(figures); i++ {
		value := figureValue(figures[i])
		if value < 0 || value >= base || number > fourMax {
			return 0, false
		}
		number = number*base + value
	}
	return number, true
}

// partBase is to what a part's figures count, and these.
func partBase(part string) (int, string) {
	switch {
	case isHex(part):
		return 16, part[2:]
	case len(part) >= 2 && part[0] == '0':
		return 8, part
	}
	return 10, part
}
