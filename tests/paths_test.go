package tests

import (
	"slices"
	"strings"
	"testing"

	"loop.example/guilloche/impl"
)

// readPath holds what PathGet reads against pieces.
func readPath(t *testing.T, text string, want ...string) {
	t.Helper()
	if got := impl.PathGet(text); !slices.Equal(got, want) {
		t.Errorf("%q: %q, not %q", text, got, want)
	}
}

// anyPath is a text with many steps.
func anyPath(m *maker) string {
	text := m.pick([]string{"", "/", "\\", "a"})
	for range m.below(8) {
		text += m.pick([]string{"", "a", "b c", "...", ".", "..", "%2e", "%2E", ".%2E", "%2e.", "%2E%2e", ".a", "a..", "%", "?#", m.text(4, mixed())})
		text += m.pick([]string{"/", "/", "\\"})
	}
	return text + m.pick([]string{"", "a", ".", "..", "%2e%2E", "b"})
}

func TestPromise12PathsAreRead(t *testing.T) {
	readPath(t, "", "")
	readPath(t, "/", "")
	readPath(t, "\\", "")
	readPath(t, "//", "", "")
	readPath(t, "/\\/", "", "", "")
	readPath(t, "a", "a")
	readPath(t, "/a", "a")
	readPath(t, "\\a", "a")
	readPath(t, "a/", "a", "")
	readPath(t, "/a/b", "a", "b")
	readPath(t, "a\\b/c", "a", "b", "c")
	readPath(t, "//a", "", "a")
	readPath(t, "a//b", "a", "", "b")
	readPath(t, "/a b?#\"<>`{}\xff\n", "a%20b%3F%23%22%3C%3E%60%7B%7D%FF%0A")
	readPath(t, "/%41%2f%zz%", "%41%2f%zz%")
	readPath(t, "/:@[]^|;='", ":@[]^|;='")
}

func TestPromise12StepsAreTakenAway(t *testing.T) {
	for _, here := range []string{".", "%2e", "%2E"} {
		readPath(t, here, "")
		readPath(t, "/"+here, "")
		readPath(t, here+"/", "")
		readPath(t, "/a/"+here, "a", "")
		readPath(t, "/a\\"+here+"\\b", "a", "b")
		readPath(t, here+"/"+here+"/a", "a")
	}
	for _, back := range []string{"..", ".%2e", ".%2E", "%2e.", "%2E.", "%2e%2e", "%2E%2e", "%2e%2E", "%2E%2E"} {
		readPath(t, back, "")
		readPath(t, "/a/"+back, "")
		readPath(t, "/a/"+back+"/", "")
		readPath(t, "/a/b/"+back, "a", "")
		readPath(t, "/a/b/"+back+"/c", "a", "c")
		readPath(t, "/a/b\\"+back+"\\"+back+"\\c", "c")
		readPath(t, "/a//"+back, "a", "")
		readPath(t, "/a//"+back+"/b", "a", "b")
		readPath(t, "/a/b/"+back+"/.", "a", "")
		readPath(t, "/a/b/./"+back+"/c", "a", "c")
	}
	for _, piece := range []string{"...", ".a", "a.", "..a", "a..", "%2e%2e%2e", "%2", "%2f", "%2e%2", ".%2ea", "%252e", ". .", "%2e%2d", "%%2e", "%2%2ee"} {
		readPath(t, "/b/"+piece+"/c", "b", strings.ReplaceAll(piece, " ", "%20"), "c")
		readPath(t, "/b/"+piece, "b", strings.ReplaceAll(piece, " ", "%20"))
	}
	readPath(t, ".\n.", ".%0A.")
}

func TestPromise12AnyPathIsReadBack(t *testing.T) {
	m := &maker{state: 12}
	for range 10000 {
		text := anyPath(m)
		path := impl.PathGet(text)
		if !slices.Equal(path, pathTold(text)) {
			t.Fatalf("%q: %q, not %q", text, path, pathTold(text))
		}
		if written := impl.PathPut(path); len(written) <= impl.TextMax {
			readPath(t, written, path...)
		}
		for _, piece := range path {
			if points := strings.ReplaceAll(strings.ToLower(piece), "%2e", "."); points == "." || points == ".." || strings.ContainsAny(piece, "/\\") {
				t.Fatalf("%q has %q", text, piece)
			}
		}
	}
}

func TestPromise12WhatIsWritten(t *testing.T) {
	sameText(t, "none", impl.PathPut(nil), "")
	sameText(t, "none", impl.PathPut([]string{}), "")
	sameText(t, "an empty one", impl.PathPut([]string{""}), "/")
	sameText(t, "two", impl.PathPut([]string{"a", ""}), "/a/")
	sameText(t, "as they are", impl.PathPut([]string{"", "a b", "..", "/\xff?"}), "//a b/..//\xff?")
	sameText(t, "many", impl.PathPut(make([]string, 1000)), strings.Repeat("/", 1000))
}

func TestPromise12LimitOfPathGet(t *testing.T) {
	full := strings.Repeat("a", impl.TextMax)
	readPath(t, full, full)
	readPath(t, full+"a")
	readPath(t, "/"+full)
	readPath(t, strings.Repeat("/", impl.TextMax), make([]string, impl.TextMax)...)
	readPath(t, strings.Repeat("/", impl.TextMax+1))
	readPath(t, strings.Repeat("\xff", impl.TextMax), strings.Repeat("%FF", impl.TextMax))
	readPath(t, strings.Repeat("../", impl.TextMax/3)+"b", "b")
	readPath(t, strings.Repeat("../", impl.TextMax/3)+"bcd")
	many := strings.Repeat("/a", impl.SegMax+1)
	if got := impl.PathGet(many); len(got) != impl.SegMax+1 {
		t.Errorf("%q", got)
	}
}

func TestPromise13AStepBackTakesOnePiece(t *testing.T) {
	m := &maker{state: 13}
	for range 5000 {
		text := anyPath(m)
		piece := m.pick([]string{"x", "a b", "...", "%41", "", "?"})
		back := m.pick([]string{"..", "%2e.", ".%2E", "%2E%2e"})
		want := impl.PathGet(text + "/")
		readPath(t, text+"/"+piece+"/"+back, want...)
		readPath(t, text+"\\"+piece+"\\"+back+"\\", want...)
	}
	readPath(t, "a/b/c/..", "a", "b", "")
	readPath(t, "a/b/c/../..", "a", "")
	readPath(t, "a/b/c/../../..", "")
	readPath(t, "a/b/c/../../../d", "d")
}

func TestPromise54APieceBehindAPath(t *testing.T) {
	m := &maker{state: 54}
	for range 5000 {
		text := anyPath(m)
		piece := m.pick([]string{"x", "a b", "...", "%41", "", ".x"})
		path := impl.PathGet(text + "/" + piece)
		if last := path[len(path)-1]; last != impl.Encode(impl.SetPath, piece) {
			t.Fatalf("%q and %q: %q", text, piece, path)
		}
		readPath(t, text+"/"+piece+"/../"+piece, path...)
		readPath(t, text+"\\"+piece+"\\%2e.\\"+piece, path...)
	}
}

func TestWatchStepsBackAtTheBeginning(t *testing.T) {
	for _, text := range []string{"..", "/..", "\\..", "../", "../..", "/../../", "%2e%2E", "/%2e./.%2e", "./..", "../.", "a/..", "a/../..", "/a/../../../"} {
		readPath(t, text, "")
		becomes(t, "http://x/"+strings.TrimLeft(text, "/\\"), "http://x/")
	}
	readPath(t, "../a", "a")
	readPath(t, "/../a/b", "a", "b")
	readPath(t, "/../../a/../b", "b")
	readPath(t, "a/../../../b/c", "b", "c")
	readPath(t, "//..", "")
	readPath(t, "//../a", "a")
	readPath(t, "///../a", "", "a")
	readPath(t, "/..//a", "", "a")
	becomes(t, "http://x/../../a", "http://x/a")
	becomes(t, "http://x\\..\\a", "http://x/a")
	becomes(t, "http://x/a/../../b?../c#../d", "http://x/b?../c#../d")
	becomes(t, "http://x?/..", "http://x/?/..")
	becomes(t, "x:../a", "x:../a")
}

func TestPathsAreNewMemory(t *testing.T) {
	room := []string{"a", "b", "behind", "the end"}
	sameText(t, "written", impl.PathPut(room[:2]), "/a/b")
	if !slices.Equal(room, []string{"a", "b", "behind", "the end"}) {
		t.Errorf("%q", room)
	}
	one, two := impl.PathGet("a/b/c/.."), impl.PathGet("a/b/c/..")
	clear(one[:cap(one)])
	if !slices.Equal(two, []string{"a", "b", ""}) {
		t.Errorf("%q", two)
	}
}
