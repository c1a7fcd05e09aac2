package tests

import (
	"fmt"
	"slices"
	"strings"
	"testing"

	"loop.example/guilloche/impl"
)

const fourMax = 4294967295

func named(name string) impl.Host {
	return impl.Host{Kind: impl.HostName, Name: name}
}

func numbered(addr int) impl.Host {
	return impl.Host{Kind: impl.HostFour, Addr: addr}
}

// read holds what HostGet reads against a host; nothing and false go together.
func read(t *testing.T, text string, want impl.Host) {
	t.Helper()
	got, ok := impl.HostGet(text)
	if got != want || ok != (want != impl.Host{}) {
		t.Errorf("%q: %v %v, not %v", text, got, ok, want)
	}
}

// four holds what FourGet reads against a number; -1 is none.
func four(t *testing.T, text string, want int) {
	t.Helper()
	got, ok := impl.FourGet(text)
	if ok != (want >= 0) || got != max(want, 0) {
		t.Errorf("%q: %d %v, not %d", text, got, ok, want)
	}
}

// anyAddr has many noughts and full bytes.
func anyAddr(m *maker) int {
	addr := 0
	for range 4 {
		addr = addr<<8 + []int{0, 1, 255, m.below(256)}[m.below(4)]
	}
	return addr
}

// anyName is a name that does not end with a number.
func anyName(m *maker) string {
	parts := []string{}
	for range m.below(4) {
		parts = append(parts, m.pick([]string{"a", "b-c", "_", "0", "12", "0x1", "www", "a1"}))
	}
	parts = append(parts, m.pick([]string{"com", "a", "-", "1x", "0xg", "org", "0xfffffffffff"}))
	return strings.Join(parts, ".") + m.pick([]string{"", "", "."})
}

func TestHostKindsHaveTheirNumbers(t *testing.T) {
	if got := []int{impl.HostNone, impl.HostName, impl.HostFour}; !slices.Equal(got, []int{0, 1, 2}) {
		t.Error(got)
	}
}

func TestPromise5NamesAreRead(t *testing.T) {
	for text, want := range map[string]string{
		"a":               "a",
		"a.com":           "a.com",
		"A.cOM":           "a.com",
		"a.com.":          "a.com.",
		"a.":              "a.",
		"-":               "-",
		"_-.-_":           "_-.-_",
		"1.a":             "1.a",
		"%61%2Eb":         "a.b",
		"%41":             "a",
		"%2541":           "",
		"x.%":             "",
		"":                "",
		".":               "",
		"..":              "",
		".a":              "",
		"a..":             "",
		"a..b":            "",
		"a.b..":           "",
		"..a":             "",
		"a b":             "",
		" a":              "",
		"a/b":             "",
		"a:80":            "",
		"a@b":             "",
		"%00":             "",
		"a%20b":           "",
		"\u00e9.com":      "",
		"[::1]":           "",
		"a+b":             "",
		"a*":              "",
		"a\x7f":           "",
		"caf%C3%A9.com":   "",
		"a.com/":          "",
		"a.com?":          "",
		"a.com#":          "",
		"a\n":             "",
		"a%2e%2E":         "",
		"a%2e":            "a.",
		"xn--caf-dma.com": "xn--caf-dma.com",
	} {
		if want == "" {
			read(t, text, impl.Host{})
		} else {
			read(t, text, named(want))
		}
	}
}

func TestPromise5EachByteOfANameIsLookedAt(t *testing.T) {
	for b := range 256 {
		text := "a" + string([]byte{byte(b)}) + "a"
		good := strings.IndexByte("abcdefghijklmnopqrstuvwxyz0123456789-_.", byte(b)) >= 0
		if impl.HostOk(named(text)) != good {
			t.Errorf("%q is ok: %v", text, !good)
		}
	}
}

func TestPromise5LimitsOfNames(t *testing.T) {
	full := strings.Repeat("a", 58) + ".b"
	read(t, full, named(full))
	read(t, "a"+full, impl.Host{})
	read(t, full+".", impl.Host{})
	read(t, full[1:]+".", named(full[1:]+"."))
	if !impl.HostOk(named(full)) || impl.HostOk(named("a"+full)) || impl.HostOk(named("")) {
		t.Error("limits of names")
	}
	written := strings.Repeat("%61", 60)
	read(t, written, named(strings.Repeat("a", 60)))
	read(t, written+"%61", impl.Host{})
}

func TestPromise5LimitOfHostGet(t *testing.T) {
	full := strings.Repeat("0", impl.TextMax-1) + "1"
	read(t, full, numbered(1))
	read(t, "0"+full, impl.Host{})
	read(t, strings.Repeat("%30", 66)+"%1", impl.Host{})
	read(t, strings.Repeat("%30", 66)+"07", numbered(7))
	read(t, strings.Repeat("%30", 67), impl.Host{})
}

func TestPromise5HostsAreReadBack(t *testing.T) {
	m := &maker{state: 5}
	for range 5000 {
		addr, name := anyAddr(m), anyName(m)
		read(t, impl.HostPut(numbered(addr)), numbered(addr))
		if !impl.HostOk(named(name)) {
			t.Fatalf("%q is not ok", name)
		}
		read(t, impl.HostPut(named(name)), named(name))
		sameText(t, "name", impl.HostPut(named(name)), name)
		text := m.text(12, "aAzZ019xX...-_%%26fF ")
		if h, ok := impl.HostGet(text); ok {
			if !impl.HostOk(h) {
				t.Fatalf("%q: %v is not ok", text, h)
			}
			read(t, impl.HostPut(h), h)
		}
	}
}

func TestPromise5WhatIsOk(t *testing.T) {
	for _, c := range []struct {
		host impl.Host
		put  string
		ok   bool
	}{
		{impl.Host{}, "", true},
		{impl.Host{Name: "a"}, "", false},
		{impl.Host{Addr: 1}, "", false},
		{named("a.com."), "a.com.", true},
		{impl.Host{Kind: impl.HostName, Name: "a", Addr: 1}, "", false},
		{impl.Host{Kind: impl.HostName, Name: "a", Addr: -1}, "", false},
		{named(""), "", false},
		{named("."), "", false},
		{named("A"), "", false},
		{named("a..b"), "", false},
		{named("a.."), "", false},
		{named("%61"), "", false},
		{named("\xff"), "", false},
		{numbered(0), "0.0.0.0", true},
		{numbered(1), "0.0.0.1", true},
		{numbered(256), "0.0.1.0", true},
		{numbered(0x0a141e28), "10.20.30.40", true},
		{numbered(fourMax), "255.255.255.255", true},
		{numbered(fourMax + 1), "", false},
		{numbered(-1), "", false},
		{impl.Host{Kind: impl.HostFour, Name: "a"}, "", false},
		{impl.Host{Kind: 3}, "", false},
		{impl.Host{Kind: 3, Name: "a"}, "", false},
		{impl.Host{Kind: -1}, "", false},
	} {
		if impl.HostOk(c.host) != c.ok {
			t.Errorf("%v is ok: %v", c.host, !c.ok)
		}
		sameText(t, fmt.Sprint(c.host), impl.HostPut(c.host), c.put)
		if !c.ok {
			sameText(t, fmt.Sprint("site of ", c.host), impl.HostSite(c.host), "")
		}
	}
}

func TestPromise6EachWayOfWriting(t *testing.T) {
	m := &maker{state: 6}
	for range 5000 {
		addr := anyAddr(m)
		parts := m.below(4) + 1
		var out []string
		for i := range parts {
			number := addr >> (24 - 8*i) & 255
			if i == parts-1 {
				number = addr & (1<<(8*(5-parts)) - 1)
			}
			way := m.pick([]string{"%d", "0%o", "000%o", "0x%x", "0X%X", "0x00%x", "0X%x"})
			out = append(out, fmt.Sprintf(way, number))
		}
		text := strings.Join(out, ".") + m.pick([]string{"", "."})
		four(t, text, addr)
		read(t, text, numbered(addr))
	}
}

func TestPromise6NumbersOfParts(t *testing.T) {
	for text, want := range map[string]int{
		"0":           0,
		"00":          0,
		"0x":          0,
		"0X":          0,
		"0x0":         0,
		"7":           7,
		"07":          7,
		"08":          -1,
		"09":          -1,
		"8":           8,
		"010":         8,
		"0x10":        16,
		"0xaF":        175,
		"0xg":         -1,
		"0x 1":        -1,
		"0x-1":        -1,
		"x1":          -1,
		"00x1":        -1,
		"1x":          -1,
		"0b1":         -1,
		"1_0":         -1,
		"1e1":         -1,
		"a":           -1,
		"+1":          -1,
		"-1":          -1,
		" 1":          -1,
		"1 ":          -1,
		"%31":         -1,
		"":            -1,
		".":           -1,
		"..":          -1,
		".1":          -1,
		"1..":         -1,
		"1..2":        -1,
		"1.":          1,
		"1.2.3.4.":    0x01020304,
		"1.2.3.4..":   -1,
		"1.2.3.4.5":   -1,
		"1.2.3.4.5.":  -1,
		"1.2.3.4.0":   -1,
		"0.0.0.0.0.0": -1,
		"1.2.3.a":     -1,
		"0x.0x.0x.0x": 0,
		"a.2.3.4":     -1,
	} {
		four(t, text, want)
	}
}

func TestPromise6LimitsOfNumbers(t *testing.T) {
	for text, want := range map[string]int{
		"255.255.255.255":          fourMax,
		"256.0.0.0":                -1,
		"0.256.0.0":                -1,
		"0.0.256.0":                -1,
		"0.0.0.256":                -1,
		"255.255.65535":            fourMax,
		"0.0.65536":                -1,
		"256.0.0":                  -1,
		"0.256.0":                  -1,
		"255.16777215":             fourMax,
		"0.16777216":               -1,
		"256.0":                    -1,
		"4294967295":               fourMax,
		"4294967296":               -1,
		"0xffffffff":               fourMax,
		"0x100000000":              -1,
		"037777777777":             fourMax,
		"040000000000":             -1,
		"42949672959":              -1,
		"42949672960":              -1,
		"0xfffffffff":              -1,
		"0x1000000000":             -1,
		"18446744073709551617":     -1,
		"0x10000000000000001":      -1,
		"02000000000000000000001":  -1,
		"0x0000000000000000000ff":  255,
		"000000000000000000000377": 255,
	} {
		four(t, text, want)
	}
	full := strings.Repeat("0", impl.TextMax-1) + "1"
	four(t, full, 1)
	four(t, "0"+full, -1)
}

func TestWatchAddressesInFewerParts(t *testing.T) {
	for text, want := range map[string]string{
		"1":          "0.0.0.1",
		"1.2":        "1.0.0.2",
		"1.2.3":      "1.2.0.3",
		"1.2.3.4":    "1.2.3.4",
		"256":        "0.0.1.0",
		"1.256":      "1.0.1.0",
		"1.2.256":    "1.2.1.0",
		"1.2.3.256":  "",
		"1.65536":    "1.1.0.0",
		"1.2.65535":  "1.2.255.255",
		"1.2.65536":  "",
		"1.16777215": "1.255.255.255",
		"1.16777216": "",
		"256.1":      "",
		"1.256.1":    "",
		"0x7f.1":     "127.0.0.1",
		"0X7F.1.":    "127.0.0.1",
		"017700.1":   "",
		"0177.1":     "127.0.0.1",
		"10.0":       "10.0.0.0",
		"0":          "0.0.0.0",
		"0x":         "0.0.0.0",
		"%31.2":      "1.0.0.2",
		"1%2e2":      "1.0.0.2",
		"4294967295": "255.255.255.255",
		"4294967296": "",
	} {
		h, ok := impl.HostGet(text)
		if ok != (want != "") || ok && h.Kind != impl.HostFour {
			t.Errorf("%q: %v %v", text, h, ok)
		}
		sameText(t, text, impl.HostPut(h), want)
	}
}

func TestWatchNameThatEndsWithANumber(t *testing.T) {
	for _, text := range []string{"a.1", "a.1.", "a.0x1", "a.0X1", "a.0x", "a.0x.", "a.08", "08", "a.09.", "a.99999999999999999999", "99999999999999999999", "a.0xfffffffff", "0xfffffffff", "1.2.3.4.5", "256.256", "a.b.0"} {
		read(t, text, impl.Host{})
		if low := impl.Lower(text); impl.HostOk(named(low)) || impl.HostPut(named(low)) != "" || impl.HostSite(named(low)) != "" {
			t.Errorf("%q is ok", text)
		}
	}
	for _, text := range []string{"1.a", "1.a.", "a.1x", "a.x1", "a.0xg", "a.00x1", "a.0x1g", "a.1-", "a._1", "0x1000000000", "a.0x1000000000", "a.0xfffffffffff.", "1.0x10000000000000001", "0xfffffffff.a"} {
		read(t, text, named(text))
	}
	for _, addr := range []string{"1", "1.2.3.4", "0x1", "0x"} {
		if impl.HostOk(named(addr)) {
			t.Errorf("%q is a name", addr)
		}
	}
}

func TestPromise7SitesOfHosts(t *testing.T) {
	for name, want := range map[string]string{
		"a":            "a",
		"a.":           "a",
		"a.com":        "a.com",
		"a.com.":       "a.com",
		"b.a.com":      "a.com",
		"b.a.com.":     "a.com",
		"d.c.b.a.com":  "a.com",
		"1.2.3.4.com":  "4.com",
		"1.a":          "1.a",
		"www.x-y.co-m": "x-y.co-m",
		"0x1.a.b":      "a.b",
	} {
		sameText(t, name, impl.HostSite(named(name)), want)
	}
	sameText(t, "address", impl.HostSite(numbered(0x01020304)), "1.2.3.4")
	sameText(t, "none", impl.HostSite(impl.Host{}), "")
}

func TestPromise7ASiteIsItsOwn(t *testing.T) {
	m := &maker{state: 7}
	for range 5000 {
		name := anyName(m)
		site := impl.HostSite(named(name))
		own, ok := impl.HostGet(site)
		if !ok || impl.HostSite(own) != site || strings.Count(site, ".") > 1 || strings.HasSuffix(site, ".") {
			t.Fatalf("%q: %q", name, site)
		}
		whole := strings.TrimSuffix(name, ".")
		if whole != site && !strings.HasSuffix(whole, "."+site) {
			t.Fatalf("%q does not end with %q", name, site)
		}
		if strings.Contains(site, ".") {
			sameText(t, "within", impl.HostSite(named("x.y."+site)), site)
		}
		addr := numbered(anyAddr(m))
		sameText(t, "address", impl.HostSite(addr), impl.HostPut(addr))
	}
}

func TestPromise50CapitalLetters(t *testing.T) {
	m := &maker{state: 50}
	for range 5000 {
		for _, text := range []string{m.text(12, "abxyz019x...-_%%26f "), anyName(m), fmt.Sprintf("0x%x.%d", m.below(300), m.below(300))} {
			low, lowOk := impl.HostGet(text)
			high, highOk := impl.HostGet(strings.ToUpper(text))
			if low != high || lowOk != highOk {
				t.Fatalf("%q: %v %v, in capital letters %v %v", text, low, lowOk, high, highOk)
			}
		}
	}
	read(t, "A.B-C_9.ORG.", named("a.b-c_9.org."))
	read(t, "0XFF.0X1", numbered(0xff000001))
	read(t, "%41%5A", named("az"))
}
