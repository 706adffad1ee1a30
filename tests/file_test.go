package tests

import (
	"path"
	"slices"
	"strings"
	"testing"
	"unsafe"

	"loop.example/g00777/impl"
)

// longPath is a path of n bytes that is Clean of itself, where n is at least 2.
func longPath(n int) string {
	return "/" + strings.Repeat("a", n-1)
}

// pathBytes are the bytes that may stand in a path, as the document lists them.
const pathBytes = "abcdefghijklmnopqrstuvwxyz0123456789._-/"

// shortPaths are all texts of a /, and up to n of the bytes that matter to Clean.
func shortPaths(n int) []string {
	all, last := []string{"/"}, []string{"/"}
	for range n {
		var longer []string
		for _, s := range last {
			for _, c := range "/.ab" {
				longer = append(longer, s+string(c))
			}
		}
		all, last = append(all, longer...), longer
	}
	return all
}

// noPaths are texts that are no path, each for another reason.
func noPaths() []string {
	return []string{
		"", "a", ".", "..", "a/b", "./a", "../a", " /a", "\x00/a",
		"/A", "/a/B/c", "/Z", "/a b", "/ ", "/a\x80", "/\xff", "/ä", "/a\x00", "/a\n", "/a\x7f",
		"/a\\b", "/a$", "/a*", "/a:b", "/a+b", "/a,b", "/a`", "/a{", "/a@", "/a[",
		longPath(impl.MaxPath + 1), strings.Repeat("/", impl.MaxPath+1), "/" + strings.Repeat("./", impl.MaxPath), strings.Repeat("/a", 1<<16),
	}
}

func TestCleanTexts(t *testing.T) {
	for _, c := range []struct{ s, want string }{
		{"/", "/"}, {"/a", "/a"}, {"/a/b-c/d_e.f/0", "/a/b-c/d_e.f/0"},
		{"/.", "/"}, {"/./", "/"}, {"/./a", "/a"}, {"/a/.", "/a"}, {"/a/./b", "/a/b"}, {"/a/./", "/a"},
		{"/..", "/"}, {"/../", "/"}, {"/../a", "/a"}, {"/../../a", "/a"}, {"/a/..", "/"}, {"/a/../", "/"},
		{"/a/../b", "/b"}, {"/a/b/..", "/a"}, {"/a/b/../c", "/a/c"}, {"/a/b/../../c", "/c"}, {"/a/../../../b/c", "/b/c"},
		{"/a/./../b", "/b"}, {"/a//../b", "/b"}, {"/a/b/./..//c", "/a/c"},
		{"//", "/"}, {"///", "/"}, {"//a", "/a"}, {"/a//b", "/a/b"}, {"/a///b////c", "/a/b/c"}, {"/a/", "/a"}, {"/a/b//", "/a/b"},
		{"/...", "/..."}, {"/a/...", "/a/..."}, {"/a/..../b", "/a/..../b"}, {"/.a", "/.a"}, {"/..a", "/..a"}, {"/a.", "/a."}, {"/a..", "/a.."}, {"/x/..a/../b", "/x/b"},
		{"/-/_", "/-/_"},
	} {
		if got := impl.Clean(c.s); got != c.want {
			t.Errorf("Clean(%q) = %q, not %q", c.s, got, c.want)
		}
	}
}

func TestCleanAtItsLength(t *testing.T) {
	full := longPath(impl.MaxPath)
	for _, c := range []struct{ s, want string }{
		{"/", "/"}, {full, full}, {full + "a", ""}, {full[:impl.MaxPath-1] + "/", full[:impl.MaxPath-1]},
		{strings.Repeat("/", impl.MaxPath), "/"}, {strings.Repeat("/", impl.MaxPath+1), ""},
		// What counts is the length ahead of the cleaning.
		{"/a" + strings.Repeat("/", impl.MaxPath-2), "/a"}, {"/a" + strings.Repeat("/", impl.MaxPath-1), ""},
	} {
		if got := impl.Clean(c.s); got != c.want {
			t.Errorf("Clean(%q) = %q, not %q", c.s, got, c.want)
		}
	}
}

func TestCleanOfNoPath(t *testing.T) {
	for _, s := range noPaths() {
		if got := impl.Clean(s); got != "" {
			t.Errorf("Clean(%.60q) = %q, but it is no path", s, got)
		}
	}
	for c := range 256 {
		s := "/a" + string([]byte{byte(c)}) + "b"
		allowed := strings.IndexByte(pathBytes, byte(c)) >= 0
		if got := impl.Clean(s); (got != "") != allowed {
			t.Errorf("Clean(%q) = %q", s, got)
		}
		if got := impl.Clean(s[2:]); (got != "") != (c == '/') {
			t.Errorf("Clean(%q) = %q", s[2:], got)
		}
	}
}

// The library's own cleaning of a rooted path follows the same rules.
func TestCleanOfAllShortPaths(t *testing.T) {
	for _, s := range shortPaths(7) {
		got := impl.Clean(s)
		if want := path.Clean(s); got != want {
			t.Fatalf("Clean(%q) = %q, not %q", s, got, want)
		}
	}
}

func TestCleanOfCleanIsClean(t *testing.T) {
	for _, s := range slices.Concat(shortPaths(6), noPaths(), []string{longPath(impl.MaxPath)}) {
		once := impl.Clean(s)
		if twice := impl.Clean(once); twice != once {
			t.Fatalf("Clean(%.60q) = %q, and Clean of that is %q", s, once, twice)
		}
	}
}

func TestFilesOkCounts(t *testing.T) {
	l := []impl.File{}
	if !impl.FilesOk(nil) || !impl.FilesOk(l) {
		t.Error("no file at all is not right")
	}
	for i := range impl.MaxFiles {
		l = append(l, impl.File{Path: "/f" + string(rune('a'+i)), Text: "x"})
		if !impl.FilesOk(l) {
			t.Errorf("%d files are not right", len(l))
		}
	}
	l = append(l, impl.File{Path: "/z"})
	if impl.FilesOk(l) {
		t.Errorf("%d files are right", len(l))
	}
	if !impl.FilesOk(l[1:]) {
		t.Error("the last one is not right, but the others are as many as may be")
	}
}

func TestFilesOkTexts(t *testing.T) {
	for _, c := range []struct {
		text string
		want bool
	}{
		{"", true}, {"\x00\xff\n", true},
		{strings.Repeat("x", impl.MaxText), true}, {strings.Repeat("x", impl.MaxText+1), false},
		{strings.Repeat("ä", impl.MaxText/2), true}, {strings.Repeat("ä", impl.MaxText/2+1), false},
	} {
		for _, l := range [][]impl.File{
			{{Path: "/a", Text: c.text}},
			{{Path: "/a", Text: c.text}, {Path: "/b"}},
			{{Path: "/a"}, {Path: "/b", Text: c.text}},
		} {
			if got := impl.FilesOk(l); got != c.want {
				t.Errorf("FilesOk with a Text of %d bytes is %v", len(c.text), got)
			}
		}
	}
}

func TestFilesOkPaths(t *testing.T) {
	for _, c := range []struct {
		paths []string
		want  bool
	}{
		{[]string{"/a"}, true}, {[]string{"/a/b.js"}, true}, {[]string{"/..."}, true},
		{[]string{longPath(impl.MaxPath)}, true}, {[]string{longPath(impl.MaxPath + 1)}, false},
		{[]string{"/"}, false}, {[]string{""}, false}, {[]string{"a"}, false}, {[]string{"/A"}, false}, {[]string{"/a b"}, false}, {[]string{"/a\x80"}, false},
		{[]string{"/a/"}, false}, {[]string{"//a"}, false}, {[]string{"/a//b"}, false}, {[]string{"/./a"}, false}, {[]string{"/a/."}, false}, {[]string{"/a/../b"}, false}, {[]string{"/.."}, false}, {[]string{"//"}, false},
		{[]string{"/a", "/b"}, true}, {[]string{"/b", "/a"}, false}, {[]string{"/a", "/a"}, false},
		{[]string{"/a", "/a/b", "/aa", "/b"}, true}, {[]string{"/a/b", "/a"}, false}, {[]string{"/aa", "/a/b"}, false},
		// By their bytes a - and a point come ahead of a /, a digit behind it, a _ ahead of a letter.
		{[]string{"/a-", "/a.", "/a/b", "/a0", "/a_", "/aa"}, true}, {[]string{"/a/b", "/a-"}, false}, {[]string{"/a_", "/a0"}, false},
		{[]string{"/a", "/c", "/b"}, false}, {[]string{"/a", "/b", "/b"}, false}, {[]string{"/b", "/a", "/c"}, false},
		{[]string{"/", "/a"}, false}, {[]string{"", "/a"}, false}, {[]string{"/a", "/b/", "/c"}, false},
	} {
		l := []impl.File{}
		for _, p := range c.paths {
			l = append(l, impl.File{Path: p})
		}
		if got := impl.FilesOk(l); got != c.want {
			t.Errorf("FilesOk of the paths %.60q is %v", c.paths, got)
		}
	}
}

func TestResolveTexts(t *testing.T) {
	for _, c := range []struct{ from, spec, want string }{
		{"/a/b", "/c", "/c"}, {"/a/b", "/", "/"}, {"/a/b", "/c/../d/", "/d"}, {"/a/b", "//c", "/c"}, {"/a/b", "/..", "/"}, {"/a/b", "/./", "/"},
		{"/a/b", "./c", "/a/c"}, {"/a/b", "./", "/a"}, {"/a/b", "./.", "/a"}, {"/a/b", ".//c", "/a/c"}, {"/a/b", "./../c", "/c"},
		{"/a/b", "../c", "/c"}, {"/a/b", "../", "/"}, {"/a/b/c", "../", "/a"}, {"/a/b/c", "../d/./e", "/a/d/e"}, {"/a", "../../c", "/c"},
		{"/a/b", ".", "/lib"}, {"/a/b", "..", "/"}, {"/a/b", "", "/lib"}, {"/a/b", "c", "/lib/c"}, {"/a/b", "c/../d", "/lib/d"}, {"/a/b", "c/../../d", "/d"},
		{"/a/b", "...", "/lib/..."}, {"/a/b", ".../c", "/lib/.../c"}, {"/a/b", ".c", "/lib/.c"}, {"/a/b", "..c", "/lib/..c"}, {"/a/b", "-", "/lib/-"},
		// From the root, from a folder, and from a path that is not Clean: all up to its last / counts.
		{"/", "./c", "/c"}, {"/", "../c", "/c"}, {"/", "c", "/lib/c"}, {"/", "/", "/"},
		{"/a/", "./c", "/a/c"}, {"/a//b", "./c", "/a/c"}, {"/a/..", "./c", "/a/c"}, {"/a/../b", "./c", "/c"}, {"/a/.", "../c", "/c"}, {"/..", "./c", "/c"},
		{"/a/b", "./C", ""}, {"/a/b", "/C", ""}, {"/a/b", "C", ""}, {"/a/b", "c d", ""}, {"/a/b", " ./c", ""}, {"/a/b", "./\x80", ""}, {"/a/b", "\xff", ""}, {"/a/b", "c\n", ""},
	} {
		if got := impl.Resolve(c.from, c.spec); got != c.want {
			t.Errorf("Resolve(%q, %q) = %q, not %q", c.from, c.spec, got, c.want)
		}
	}
}

func TestResolveFromNoPath(t *testing.T) {
	for _, from := range noPaths() {
		for _, spec := range []string{"/c", "/", "./c", "./", "../c", "c", ".", "..", "", "C", "/C"} {
			if got := impl.Resolve(from, spec); got != "" {
				t.Errorf("Resolve(%.60q, %q) = %q, but from is no path", from, spec, got)
			}
		}
	}
}

func TestResolveAtItsLength(t *testing.T) {
	as := func(n int) string { return strings.Repeat("a", n) }
	slashes := func(n int) string { return strings.Repeat("/", n) }
	deep := "/abc/" + as(impl.MaxPath-5)
	for _, c := range []struct{ from, spec, want string }{
		{"/x", "/" + as(impl.MaxPath-1), "/" + as(impl.MaxPath-1)}, {"/x", "/" + as(impl.MaxPath), ""},
		{"/x", as(impl.MaxPath - 5), "/lib/" + as(impl.MaxPath-5)}, {"/x", as(impl.MaxPath - 4), ""},
		{"/x", "./" + as(impl.MaxPath-3), "/" + as(impl.MaxPath-3)}, {"/x", "./" + as(impl.MaxPath-2), ""},
		{"/x", "../" + as(impl.MaxPath-4), "/" + as(impl.MaxPath-4)}, {"/x", "../" + as(impl.MaxPath-3), ""},
		// Of from only its folder is joined, but from itself must be a path.
		{deep, "./" + as(impl.MaxPath-7), "/abc/" + as(impl.MaxPath-7)}, {deep, "./" + as(impl.MaxPath-6), ""},
		{deep, "../" + as(impl.MaxPath-8), "/" + as(impl.MaxPath-8)}, {deep, "../" + as(impl.MaxPath-7), ""},
		{deep + "a", "./b", ""}, {deep + "a", "/b", ""}, {deep + "a", "b", ""},
		// What counts is the length ahead of the cleaning.
		{slashes(impl.MaxPath-2) + "a", "./", "/"}, {slashes(impl.MaxPath-1) + "a", "./", ""},
		{slashes(impl.MaxPath-3) + "a", "../", "/"}, {slashes(impl.MaxPath-2) + "a", "../", ""},
		{"/x", strings.Repeat("../", 1<<16), ""}, {"/x", as(1 << 16), ""},
	} {
		if got := impl.Resolve(c.from, c.spec); got != c.want {
			t.Errorf("Resolve(%q, %.60q) = %q, not %q", c.from, c.spec, got, c.want)
		}
	}
}

// someSpecs are specs of each kind, right ones and wrong ones.
func someSpecs() []string {
	l := noPaths()
	for _, s := range shortPaths(4) {
		l = append(l, s, s[1:], "."+s, ".."+s)
	}
	return l
}

func TestWhatResolveTellsIsClean(t *testing.T) {
	for _, from := range []string{"/", "/a", "/a/b", "/a/b/", "/..", "/a//b/./c", longPath(impl.MaxPath), "a", ""} {
		for _, spec := range someSpecs() {
			if got := impl.Resolve(from, spec); impl.Clean(got) != got {
				t.Fatalf("Resolve(%q, %.60q) = %q, and Clean of that is %q", from, spec, got, impl.Clean(got))
			}
		}
	}
}

func TestResolveIsTheSameFromOneFolder(t *testing.T) {
	for _, folder := range []string{"/", "/a/", "/a/b/", "//", "/a/../", "/./", "/x/" + strings.Repeat("y/", 14)} {
		for _, spec := range someSpecs() {
			want := impl.Resolve(folder, spec)
			for _, name := range []string{"a", "b", "zz.js", ".", "..", "-_0"} {
				if got := impl.Resolve(folder+name, spec); got != want {
					t.Fatalf("Resolve(%q, %.60q) = %q, but from its folder %q", folder+name, spec, got, want)
				}
			}
		}
	}
}

func TestFindTells(t *testing.T) {
	l := []impl.File{{Path: "/a", Text: "one"}, {Path: "/a/b", Text: ""}, {Path: "/b", Text: "two\x00\xff"}}
	for _, c := range []struct {
		path, want string
		ok         bool
	}{
		{"/a", "one", true}, {"/a/b", "", true}, {"/b", "two\x00\xff", true},
		{"/c", "", false}, {"/", "", false}, {"", "", false}, {"a", "", false}, {"/a/", "", false}, {"//a", "", false}, {"/A", "", false}, {"/a/b/c", "", false}, {"/a/../b", "", false},
	} {
		if got, ok := impl.Find(l, c.path); got != c.want || ok != c.ok {
			t.Errorf("Find(%q) = %q, %v", c.path, got, ok)
		}
	}
	if got, ok := impl.Find(nil, "/a"); got != "" || ok {
		t.Errorf("Find in nothing = %q, %v", got, ok)
	}
}

func TestFindInFilesThatAreNotRight(t *testing.T) {
	a, b := impl.File{Path: "/a", Text: "one"}, impl.File{Path: "/b", Text: "two"}
	many := []impl.File{}
	for i := range impl.MaxFiles + 1 {
		many = append(many, impl.File{Path: "/" + string(rune('a'+i)), Text: "x"})
	}
	for _, l := range [][]impl.File{
		{b, a}, {a, a}, {a, b, a}, {{Path: "/"}, a}, {a, {Path: "/b/"}}, {a, {Path: "c"}}, {a, {}}, {{}, a},
		{a, {Path: "/b", Text: strings.Repeat("x", impl.MaxText+1)}}, {{Path: "/A"}, a}, many,
	} {
		for _, f := range l {
			if got, ok := impl.Find(l, f.Path); got != "" || ok {
				t.Errorf("Find(%q) = %q, %v among files that are not right", f.Path, got, ok)
			}
		}
	}
}

func TestFilesAreNotWrittenInto(t *testing.T) {
	spare := []impl.File{{Path: "/a", Text: "one"}, {Path: "/b", Text: "two"}, {Path: "/c", Text: "three"}}
	before := slices.Clone(spare)
	impl.FilesOk(spare[:2])
	impl.FilesOk([]impl.File{spare[1], spare[0]})
	impl.Find(spare[:2], "/b")
	impl.Find(spare[:2], "/c")
	if !slices.Equal(spare, before) {
		t.Errorf("the files were %v and are %v", before, spare)
	}
}

func TestTextsOfFilesAreNewMemory(t *testing.T) {
	s := strings.Repeat("/ab", 3)
	if got := impl.Clean(s); got != s || unsafe.StringData(got) == unsafe.StringData(s) {
		t.Errorf("Clean(%q) = %q shares its memory", s, got)
	}
	if got := impl.Resolve("/x", s); got != s || unsafe.StringData(got) == unsafe.StringData(s) {
		t.Errorf("Resolve of %q = %q shares its memory", s, got)
	}
	l := []impl.File{{Path: "/a", Text: strings.Repeat("text", 3)}}
	if got, ok := impl.Find(l, "/a"); !ok || got != l[0].Text || unsafe.StringData(got) == unsafe.StringData(l[0].Text) {
		t.Errorf("Find = %q shares its memory", got)
	}
}
