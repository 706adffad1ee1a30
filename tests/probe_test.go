package tests

import (
	"slices"
	"strings"
	"testing"

	"loop.example/g00777/impl"
)

// wantCandidates asks for these candidates, in this order.
func wantCandidates(t *testing.T, from, spec string, want ...string) {
	t.Helper()
	if got := impl.Candidates(from, spec); !slices.Equal(got, want) {
		t.Errorf("Candidates(%q, %.60q) are %q, not %q", from, spec, got, want)
	}
}

// wantProbe asks for that path, and for no file where it is empty.
func wantProbe(t *testing.T, l []impl.File, from, spec, want string) {
	t.Helper()
	if got, ok := impl.Probe(l, from, spec); got != want || ok != (want != "") {
		t.Errorf("Probe(%s, %q, %.60q) = %q, %v, not %q", short(l), from, spec, got, ok, want)
	}
}

// deepest is a path of MaxPath bytes that is in as many directories as one can be in.
func deepest() string {
	return strings.Repeat("/d", impl.MaxPath/2)
}

// letters are as many bytes as one asks for, all of which a path may have.
func letters(n int) string {
	return strings.Repeat("a", n)
}

func TestUpTexts(t *testing.T) {
	for _, c := range []struct {
		path string
		want []string
	}{
		{"/a", []string{"/"}}, {"/a/b", []string{"/a", "/"}}, {"/a/b/c.js", []string{"/a/b", "/a", "/"}}, {"/aa/b-_.0/c", []string{"/aa/b-_.0", "/aa", "/"}},
		// Clean of it counts.
		{"/a/b/../c", []string{"/a", "/"}}, {"/a/", []string{"/"}}, {"/a//b", []string{"/a", "/"}}, {"//a", []string{"/"}}, {"/a/.", []string{"/"}}, {"/a/b/.", []string{"/a", "/"}}, {"/a/b/..", []string{"/"}}, {"/a/b/c/..//./d/", []string{"/a/b", "/a", "/"}},
		{"/...", []string{"/"}}, {"/a/.../b", []string{"/a/...", "/a", "/"}}, {"/..a/b", []string{"/..a", "/"}},
		{"/a/a/a", []string{"/a/a", "/a", "/"}},
	} {
		if got := impl.Up(c.path); !slices.Equal(got, c.want) {
			t.Errorf("Up(%q) is %q, not %q", c.path, got, c.want)
		}
	}
}

func TestUpOfTheRootAndOfNoPath(t *testing.T) {
	roots := []string{"/", "//", "/.", "/..", "/./", "/../..", "/a/..", "/a/../", "/a/b/../..", strings.Repeat("/", impl.MaxPath)}
	for _, path := range append(roots, noPaths()...) {
		if got := impl.Up(path); len(got) != 0 {
			t.Errorf("Up(%.60q) is %q", path, got)
		}
	}
}

func TestUpAtItsLength(t *testing.T) {
	got := impl.Up(deepest())
	if len(got) != impl.MaxPath/2 || got[0] != deepest()[:impl.MaxPath-2] || got[len(got)-1] != "/" {
		t.Errorf("Up of the deepest path is %q", got)
	}
	for _, path := range []string{longPath(impl.MaxPath), "/a" + strings.Repeat("/", impl.MaxPath-2)} {
		if got := impl.Up(path); !slices.Equal(got, []string{"/"}) {
			t.Errorf("Up(%q) is %q", path, got)
		}
		if got := impl.Up(path + "/"); len(got) != 0 {
			t.Errorf("Up(%q) is %q, but it is too long", path+"/", got)
		}
	}
}

func TestCandidatesThatSayWhere(t *testing.T) {
	for _, from := range []string{"/a/b", "/a/z", "/a/", "/a//b", "/a/..", "/a/../a/b"} {
		wantCandidates(t, from, "./c", "/a/c", "/a/c.js", "/a/c/index.js")
		wantCandidates(t, from, "../c", "/c", "/c.js", "/c/index.js")
		wantCandidates(t, from, "/c", "/c", "/c.js", "/c/index.js")
	}
	wantCandidates(t, "/a/b", "./c.js", "/a/c.js", "/a/c.js.js", "/a/c.js/index.js")
	wantCandidates(t, "/a/b", "./c/../d/", "/a/d", "/a/d.js", "/a/d/index.js")
	wantCandidates(t, "/a/b/c", "../../../../d", "/d", "/d.js", "/d/index.js")
	wantCandidates(t, "/a/b/c", "./", "/a/b", "/a/b.js", "/a/b/index.js")
	wantCandidates(t, "/a/b/c", "../", "/a", "/a.js", "/a/index.js")
	wantCandidates(t, "/", "./c", "/c", "/c.js", "/c/index.js")
	wantCandidates(t, "/", "../c", "/c", "/c.js", "/c/index.js")
	wantCandidates(t, "/", "/c/d", "/c/d", "/c/d.js", "/c/d/index.js")
	// What comes of the root is a path by its length, though no file has it.
	wantCandidates(t, "/a", "./", "/", "/.js", "//index.js")
	wantCandidates(t, "/a", "/", "/", "/.js", "//index.js")
	wantCandidates(t, "/a", "../../", "/", "/.js", "//index.js")
}

func TestCandidatesInLibraries(t *testing.T) {
	wantCandidates(t, "/m", "c", "/lib/c", "/lib/c.js", "/lib/c/index.js")
	wantCandidates(t, "/a/m", "c", "/a/lib/c", "/a/lib/c.js", "/a/lib/c/index.js", "/lib/c", "/lib/c.js", "/lib/c/index.js")
	wantCandidates(t, "/a/b/m", "c/d.js",
		"/a/b/lib/c/d.js", "/a/b/lib/c/d.js.js", "/a/b/lib/c/d.js/index.js",
		"/a/lib/c/d.js", "/a/lib/c/d.js.js", "/a/lib/c/d.js/index.js",
		"/lib/c/d.js", "/lib/c/d.js.js", "/lib/c/d.js/index.js")
	wantCandidates(t, "/lib/m", "c", "/lib/lib/c", "/lib/lib/c.js", "/lib/lib/c/index.js", "/lib/c", "/lib/c.js", "/lib/c/index.js")
	// Here Clean of from counts.
	wantCandidates(t, "/a/b/..", "c", "/lib/c", "/lib/c.js", "/lib/c/index.js")
	wantCandidates(t, "/a/./m/", "c", "/a/lib/c", "/a/lib/c.js", "/a/lib/c/index.js", "/lib/c", "/lib/c.js", "/lib/c/index.js")
	// The root is in no directory.
	for _, from := range []string{"/", "//", "/.", "/..", "/a/.."} {
		for _, spec := range []string{"c", "", ".", "..", "c/../../d"} {
			wantCandidates(t, from, spec)
		}
	}
}

func TestCandidatesOfOddSpecs(t *testing.T) {
	wantCandidates(t, "/m", "", "/lib", "/lib.js", "/lib/index.js")
	wantCandidates(t, "/m", ".", "/lib", "/lib.js", "/lib/index.js")
	wantCandidates(t, "/m", "..", "/", "/.js", "//index.js")
	wantCandidates(t, "/m", "...", "/lib/...", "/lib/....js", "/lib/.../index.js")
	wantCandidates(t, "/m", ".../c", "/lib/.../c", "/lib/.../c.js", "/lib/.../c/index.js")
	wantCandidates(t, "/m", ".c", "/lib/.c", "/lib/.c.js", "/lib/.c/index.js")
	wantCandidates(t, "/m", "..c", "/lib/..c", "/lib/..c.js", "/lib/..c/index.js")
	wantCandidates(t, "/m", "c/", "/lib/c", "/lib/c.js", "/lib/c/index.js")
	wantCandidates(t, "/m", "c//./d/..", "/lib/c", "/lib/c.js", "/lib/c/index.js")
	wantCandidates(t, "/a/m", "..", "/a", "/a.js", "/a/index.js", "/", "/.js", "//index.js")
	wantCandidates(t, "/a/m", ".", "/a/lib", "/a/lib.js", "/a/lib/index.js", "/lib", "/lib.js", "/lib/index.js")
	// Bytes that no path has, ahead, within and at the end; not even the endings are left.
	for _, spec := range []string{"C", "/C", "./C", "../C", "c d", "./c d", " ", " ./c", "./ ", "\x00", "/\xff", "c\n", "./c\n", "ä", "c\\d", "c:d", "/c$", "./C/../d", "C/../d"} {
		for _, from := range []string{"/", "/m", "/a/m", deepest()} {
			wantCandidates(t, from, spec)
		}
	}
}

func TestCandidatesStandOnce(t *testing.T) {
	wantCandidates(t, "/a/b/m", "c/../../../../../d", "/d", "/d.js", "/d/index.js")
	wantCandidates(t, "/a/b/c/m", "x/../../../d", "/a/b/d", "/a/b/d.js", "/a/b/d/index.js", "/a/d", "/a/d.js", "/a/d/index.js", "/d", "/d.js", "/d/index.js")
	wantCandidates(t, "/a/b/m", "c/../../..", "/a", "/a.js", "/a/index.js", "/", "/.js", "//index.js")
	// What is one candidate by itself may be another one with its ending: it stands where it stood first.
	wantCandidates(t, "/index.js/m", "c/../../index.js", "/index.js/index.js", "/index.js/index.js.js", "/index.js/index.js/index.js", "/index.js", "/index.js.js")
	wantCandidates(t, "/x/index.js/m", "c/../../index.js", "/x/index.js/index.js", "/x/index.js/index.js.js", "/x/index.js/index.js/index.js", "/x/index.js", "/x/index.js.js", "/index.js", "/index.js.js", "/index.js/index.js")
}

func TestCandidatesFromNoPath(t *testing.T) {
	for _, from := range noPaths() {
		for _, spec := range []string{"/c", "/", "./c", "./", "../c", "c", "", ".", "..", "C", "c/"} {
			wantCandidates(t, from, spec)
		}
	}
}

func TestCandidatesAtTheirLength(t *testing.T) {
	const js, index = len(".js"), len("/index.js")
	for _, c := range []struct {
		length int
		want   []string
	}{
		{impl.MaxPath - index, []string{"", ".js", "/index.js"}}, {impl.MaxPath - index + 1, []string{"", ".js"}},
		{impl.MaxPath - js, []string{"", ".js"}}, {impl.MaxPath - js + 1, []string{""}},
		{impl.MaxPath, []string{""}}, {impl.MaxPath + 1, nil}, {impl.MaxPath + 2, nil}, {1 << 16, nil},
	} {
		meant := longPath(c.length)
		want := []string{}
		for _, ending := range c.want {
			want = append(want, meant+ending)
		}
		wantCandidates(t, "/m", meant, want...)
		wantCandidates(t, deepest(), meant, want...)
	}
}

// What is cleaned is asked ahead of the cleaning: a ./ counts, and so does the / of the root ahead of /lib/.
func TestCandidatesAreMeasuredAheadOfTheCleaning(t *testing.T) {
	near := "/" + letters(impl.MaxPath-3)
	wantCandidates(t, "/m", "./"+near[1:], near)
	wantCandidates(t, "/m", "./"+near[1:]+"a")
	wantCandidates(t, "/m", "../"+letters(impl.MaxPath-4), "/"+letters(impl.MaxPath-4), "/"+letters(impl.MaxPath-4)+".js")
	wantCandidates(t, "/m", "../"+letters(impl.MaxPath-3))
	inRoot := letters(impl.MaxPath - len("//lib/"))
	wantCandidates(t, "/m", inRoot, "/lib/"+inRoot)
	wantCandidates(t, "/m", inRoot+"a")
	wantCandidates(t, "/a/m", inRoot, "/lib/"+inRoot)
	inFolder := letters(impl.MaxPath - len("/a/lib/"))
	wantCandidates(t, "/a/m", inFolder, "/a/lib/"+inFolder, "/lib/"+inFolder)
	wantCandidates(t, "/a/b/m", inFolder, "/a/lib/"+inFolder, "/lib/"+inFolder)
	dots := strings.Repeat("./", impl.MaxPath/2)
	wantCandidates(t, "/m", "c/"+dots[:impl.MaxPath-len("//lib/c/")], "/lib/c", "/lib/c.js", "/lib/c/index.js")
	wantCandidates(t, "/m", "c/"+dots[:impl.MaxPath-len("//lib/c/")+1])
}

func TestCandidatesFromTheLongestPaths(t *testing.T) {
	full := longPath(impl.MaxPath)
	wantCandidates(t, full, "./c", "/c", "/c.js", "/c/index.js")
	wantCandidates(t, full, "c", "/lib/c", "/lib/c.js", "/lib/c/index.js")
	for _, spec := range []string{"./c", "../c", "/c", "c", ""} {
		wantCandidates(t, full+"a", spec)
		wantCandidates(t, deepest()+"/", spec)
	}
	wantCandidates(t, "/a/"+letters(impl.MaxPath-3), "c", "/a/lib/c", "/a/lib/c.js", "/a/lib/c/index.js", "/lib/c", "/lib/c.js", "/lib/c/index.js")
	// Of the deepest one the directories that are too far down have no candidate, or not all of them.
	got := impl.Candidates(deepest(), "c")
	if len(got) < 3 || got[0] != strings.Repeat("/d", 17)+"/lib/c" || got[1] != strings.Repeat("/d", 16)+"/lib/c" || got[2] != strings.Repeat("/d", 15)+"/lib/c" || got[3] != got[2]+".js" {
		t.Errorf("Candidates from the deepest path are %q", got)
	}
}

func TestProbeTells(t *testing.T) {
	files := filesOf("/a/b/lib/near", "", "/a/lib/near", "", "/a/lib/up.js", "", "/both", "", "/both.js", "", "/lib/far/index.js", "", "/lib/near", "")
	for _, c := range []struct{ from, spec, want string }{
		{"/a/b/m", "near", "/a/b/lib/near"}, {"/a/m", "near", "/a/lib/near"}, {"/m", "near", "/lib/near"}, {"/a/b/c/d/e/m", "near", "/a/b/lib/near"}, {"/x/y/z", "near", "/lib/near"},
		{"/a/b/m", "up", "/a/lib/up.js"}, {"/a/b/m", "up.js", "/a/lib/up.js"}, {"/m", "up", ""}, {"/x/b/m", "up", ""},
		{"/a/b/m", "far", "/lib/far/index.js"}, {"/m", "far", "/lib/far/index.js"}, {"/m", "far/index", "/lib/far/index.js"}, {"/m", "far/index.js", "/lib/far/index.js"}, {"/m", "far/", "/lib/far/index.js"},
		{"/m", "./both", "/both"}, {"/m", "/both", "/both"}, {"/a/m", "../both", "/both"}, {"/m", "./both.js", "/both.js"}, {"/m", "/both/../both/", "/both"},
		{"/", "./both", "/both"}, {"/", "near", ""}, {"/", "/lib/near", "/lib/near"},
		{"/a/m", "./lib/up", "/a/lib/up.js"}, {"/a/b/m", "../lib/up", "/a/lib/up.js"}, {"/a/b/m", "./lib/up", ""}, {"/m", "/a/lib/up", "/a/lib/up.js"},
		{"/m", "/lib/far", "/lib/far/index.js"}, {"/m", "/", ""}, {"/m", "./", ""}, {"/a/b/m", "..", ""}, {"/m", "", ""}, {"/m", "none", ""}, {"/m", "Near", ""}, {"/m", "./Both", ""},
		{"", "near", ""}, {"m", "/both", ""}, {"/M", "./both", ""}, {longPath(impl.MaxPath + 1), "near", ""}, {longPath(impl.MaxPath), "near", "/lib/near"},
		{"/a/b/..", "near", "/lib/near"}, {"/a/b/../m", "near", "/a/lib/near"}, {"/x/..", "near", ""},
	} {
		wantProbe(t, files, c.from, c.spec, c.want)
		wantProbe(t, nil, c.from, c.spec, "")
	}
}

// An ending of a nearer one comes ahead of one further up by itself.
func TestProbeOrder(t *testing.T) {
	order := []string{"/a/lib/c", "/a/lib/c.js", "/a/lib/c/index.js", "/lib/c", "/lib/c.js", "/lib/c/index.js"}
	for first, path := range order {
		l := []impl.File{}
		for _, p := range order[first:] {
			l = append(l, impl.File{Path: p, Text: p})
		}
		slices.SortFunc(l, func(a, b impl.File) int { return strings.Compare(a.Path, b.Path) })
		wantProbe(t, l, "/a/m", "c", path)
	}
}

func TestProbeOfTheRootFindsNothing(t *testing.T) {
	l := filesOf("/.js", "", "/index.js", "", "/lib.js", "", "/lib/index.js", "")
	wantProbe(t, l, "/m", "./", "/.js")
	wantProbe(t, l[1:], "/m", "./", "")
	wantProbe(t, l[1:], "/m", "/", "")
	wantProbe(t, l[1:], "/m", "..", "")
	wantProbe(t, l, "/m", "", "/lib.js")
	wantProbe(t, l[3:], "/m", ".", "/lib/index.js")
	// What cannot be cleaned has no endings, which would be files at the root.
	wantProbe(t, l, "/m", "C", "")
	wantProbe(t, l, "/m", "./C", "")
	wantProbe(t, l, "/m", letters(impl.MaxPath), "")
}

func TestProbeAtItsLength(t *testing.T) {
	full := longPath(impl.MaxPath)
	wantProbe(t, filesOf(full, ""), "/m", full, full)
	wantProbe(t, filesOf(full, ""), "/m", full+"a", "")
	inRoot := "/lib/" + letters(impl.MaxPath-5)
	wantProbe(t, filesOf(inRoot, ""), "/m", inRoot, inRoot)
	wantProbe(t, filesOf(inRoot, ""), "/m", inRoot[5:], "")
	wantProbe(t, filesOf(inRoot[:impl.MaxPath-1], ""), "/m", inRoot[5:impl.MaxPath-1], inRoot[:impl.MaxPath-1])
	for _, ending := range []string{".js", "/index.js"} {
		meant := longPath(impl.MaxPath - len(ending))
		wantProbe(t, filesOf(meant+ending, ""), "/m", meant, meant+ending)
		wantProbe(t, filesOf(meant+ending, ""), "/m", meant+"a", "")
	}
}

func TestProbeInFilesThatAreNotRight(t *testing.T) {
	for what, l := range wrongFiles() {
		for _, f := range l {
			for _, spec := range []string{f.Path, "." + f.Path, "/a", "./b", "a"} {
				if got, ok := impl.Probe(l, "/m", spec); got != "" || ok {
					t.Errorf("%s: Probe of %.60q = %q, %v", what, spec, got, ok)
				}
			}
		}
	}
	long := impl.File{Path: "/z", Text: strings.Repeat("x", impl.MaxText+1)}
	wantProbe(t, []impl.File{{Path: "/a"}, long}, "/m", "./a", "")
	long.Text = long.Text[1:]
	wantProbe(t, []impl.File{{Path: "/a"}, long}, "/m", "./a", "/a")
}
