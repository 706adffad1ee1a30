package tests

import (
	"fmt"
	"math/rand"
	"slices"
	"strings"
	"testing"
	"unsafe"

	"loop.example/g00777/impl"
)

// filesOf are files of paths and texts, one behind the other, in their order.
func filesOf(pairs ...string) []impl.File {
	l := []impl.File{}
	for i := 0; i < len(pairs); i += 2 {
		l = append(l, impl.File{Path: pairs[i], Text: pairs[i+1]})
	}
	slices.SortFunc(l, func(a, b impl.File) int { return strings.Compare(a.Path, b.Path) })
	return l
}

// asking is a text that asks for each spec.
func asking(specs ...string) string {
	text := ""
	for _, spec := range specs {
		text += `import "` + spec + `";`
	}
	return text
}

func link(from int, spec string, to int) impl.Link {
	return impl.Link{From: from, Spec: spec, To: to}
}

func isSameGraph(a, b impl.Graph) bool {
	return slices.Equal(a.Paths, b.Paths) && slices.EqualFunc(a.Mods, b.Mods, isSameMod) && slices.Equal(a.Links, b.Links)
}

// wantGraph asks for what Load tells, and for the promise of it.
func wantGraph(t *testing.T, files []impl.File, entry string, paths []string, links ...impl.Link) impl.Graph {
	t.Helper()
	g, f := impl.Load(files, entry)
	if f != (impl.Fault{}) || !slices.Equal(g.Paths, paths) || !slices.Equal(g.Links, links) {
		t.Fatalf("Load(%v, %q) = %v, %v, %v, not %v, %v", files, entry, g.Paths, g.Links, f, paths, links)
	}
	wantGraphOf(t, files, entry, g)
	return g
}

// wantGraphOf asks that g is a right graph of the files, and that its order is right.
func wantGraphOf(t *testing.T, files []impl.File, entry string, g impl.Graph) {
	t.Helper()
	if !impl.GraphOk(g) || !plainGraphOk(g) || g.Paths[0] != entry {
		t.Fatalf("what Load tells of %v and %q is no right graph: %+v", files, entry, g)
	}
	for i, path := range g.Paths {
		text, found := impl.Find(files, path)
		if !found || !isSameMod(g.Mods[i], mustParse(t, text, false)) {
			t.Fatalf("module %d of %v and %q is not that of its file: %.400s", i, files, entry, dump(g.Mods[i]))
		}
	}
	for _, link := range g.Links {
		if g.Paths[link.To] != impl.Resolve(g.Paths[link.From], link.Spec) {
			t.Fatalf("%v is not where its request leads, in %v", link, files)
		}
	}
	wantOrdered(t, g)
}

func wantFault(t *testing.T, files []impl.File, entry string, kind int, path string, at int) {
	t.Helper()
	g, f := impl.Load(files, entry)
	if want := (impl.Fault{Kind: kind, Path: path, At: at}); f != want {
		t.Errorf("Load(%.300s, %.60q) tells %v, not %v", fmt.Sprint(files), entry, f, want)
	}
	if len(g.Paths)+len(g.Mods)+len(g.Links) != 0 {
		t.Errorf("Load(%.300s, %.60q) tells a fault beside %.300s", fmt.Sprint(files), entry, fmt.Sprint(g))
	}
}

func TestFaultConstants(t *testing.T) {
	kinds := []int{impl.FaNone, impl.FaMissing, impl.FaSyntax, impl.FaEarly, impl.FaLink, impl.FaPath, impl.FaBig}
	if !slices.Equal(kinds, []int{0, 1, 2, 3, 4, 5, 6}) {
		t.Errorf("the kinds are %v", kinds)
	}
}

func TestLoadOfOneModule(t *testing.T) {
	for _, text := range []string{
		``, `// nothing`, `print(1);`, `let a = 1; export { a }; export default a + 2;`, `print(undef); fail = 1; a = b;`,
		strings.Repeat(" ", impl.MaxText),
	} {
		for _, path := range []string{"/a", "/lib/a", "/a/b/c.js", "/...", longPath(impl.MaxPath)} {
			wantGraph(t, filesOf(path, text), path, []string{path})
			// Who is not asked for is not in the graph, and may be anything.
			wantGraph(t, filesOf(path, text, "/x", `let = 1;`, "/y", asking("X"), "/z", asking("./a", "./q")), path, []string{path})
		}
	}
}

func TestLoadOfChains(t *testing.T) {
	files := filesOf("/a", asking("./b"), "/b", asking("./c"), "/c", asking("d"), "/lib/d", `print(1);`)
	wantGraph(t, files, "/a", []string{"/a", "/b", "/c", "/lib/d"}, link(2, "d", 3), link(1, "./c", 2), link(0, "./b", 1))
	wantGraph(t, files, "/b", []string{"/b", "/c", "/lib/d"}, link(1, "d", 2), link(0, "./c", 1))
	wantGraph(t, files, "/lib/d", []string{"/lib/d"})
	// The order is that of the requests, not that of the files.
	files = filesOf("/z", asking("./m"), "/m", asking("./a"), "/a", ``)
	wantGraph(t, files, "/z", []string{"/z", "/m", "/a"}, link(1, "./a", 2), link(0, "./m", 1))
}

func TestLoadByEachKindOfRequest(t *testing.T) {
	ways := []string{`import "./b";`, `import { N } from "./b";`, `import { default as N } from "./b";`, `import * as N from "./b";`, `import N from "./b";`, `export { N } from "./b";`, `export { default as N } from "./b";`, `export * from "./b";`}
	for _, way := range ways {
		text := named(way, "n")
		wantGraph(t, filesOf("/a", text, "/b", `print(1);`), "/a", []string{"/a", "/b"}, link(0, "./b", 1))
		wantGraph(t, filesOf("/b", text), "/b", []string{"/b"}, link(0, "./b", 0))
		wantFault(t, filesOf("/a", text), "/a", impl.FaMissing, "/b", 0)
		for _, other := range ways {
			wantGraph(t, filesOf("/a", text+named(other, "m"), "/b", ``), "/a", []string{"/a", "/b"}, link(0, "./b", 1))
		}
	}
}

func TestLoadByTwoWays(t *testing.T) {
	files := filesOf("/a", asking("./b", "./c"), "/b", asking("./d"), "/c", asking("./d"), "/d", ``)
	g := wantGraph(t, files, "/a", []string{"/a", "/b", "/d", "/c"}, link(1, "./d", 2), link(0, "./b", 1), link(3, "./d", 2), link(0, "./c", 3))
	wantOrder(t, g, 2, 1, 3, 0)
	files = filesOf("/a", asking("./c", "./b"), "/b", asking("./d"), "/c", asking("./d"), "/d", ``)
	g = wantGraph(t, files, "/a", []string{"/a", "/c", "/d", "/b"}, link(1, "./d", 2), link(0, "./c", 1), link(3, "./d", 2), link(0, "./b", 3))
	wantOrder(t, g, 2, 1, 3, 0)
	files = filesOf("/a", asking("./d", "./b"), "/b", asking("./d"), "/d", ``)
	g = wantGraph(t, files, "/a", []string{"/a", "/d", "/b"}, link(0, "./d", 1), link(2, "./d", 1), link(0, "./b", 2))
	wantOrder(t, g, 1, 2, 0)
	files = filesOf("/a", asking("./b", "./d"), "/b", asking("./d"), "/d", ``)
	g = wantGraph(t, files, "/a", []string{"/a", "/b", "/d"}, link(1, "./d", 2), link(0, "./b", 1), link(0, "./d", 2))
	wantOrder(t, g, 2, 1, 0)
}

func TestLoadOfModulesThatAskForEachOther(t *testing.T) {
	files := filesOf("/a", asking("./b"), "/b", asking("./a"))
	g := wantGraph(t, files, "/a", []string{"/a", "/b"}, link(1, "./a", 0), link(0, "./b", 1))
	wantOrder(t, g, 1, 0)
	g = wantGraph(t, files, "/b", []string{"/b", "/a"}, link(1, "./b", 0), link(0, "./a", 1))
	wantOrder(t, g, 1, 0)
	files = filesOf("/a", asking("./b"), "/b", asking("./c"), "/c", asking("./a", "./b", "./c"))
	g = wantGraph(t, files, "/a", []string{"/a", "/b", "/c"}, link(2, "./a", 0), link(2, "./b", 1), link(2, "./c", 2), link(1, "./c", 2), link(0, "./b", 1))
	wantOrder(t, g, 2, 1, 0)
	g = wantGraph(t, files, "/c", []string{"/c", "/a", "/b"}, link(2, "./c", 0), link(1, "./b", 2), link(0, "./a", 1), link(0, "./b", 2), link(0, "./c", 0))
	wantOrder(t, g, 2, 1, 0)
	// One that is asked for again while it is being loaded is not loaded again, nor is what it asks for later.
	files = filesOf("/a", asking("./b", "./c"), "/b", asking("./a"), "/c", asking("./b", "./a"))
	g = wantGraph(t, files, "/a", []string{"/a", "/b", "/c"}, link(1, "./a", 0), link(0, "./b", 1), link(2, "./b", 1), link(2, "./a", 0), link(0, "./c", 2))
	wantOrder(t, g, 1, 2, 0)
}

// waysToItself are specs that lead from /lib/a to itself.
func waysToItself() []string {
	return []string{
		"/lib/a", "./a", "../lib/a", "a", "//lib//a", "/./lib/a", "/x/../lib/a", "/../lib/a", "/lib/a/", "/lib/a/.", "/lib/a/b/..",
		".//a", "././a", "./../lib/a", "./x/../a", "./a/", "../../lib/a", "../../../lib/./a", "..//lib/a", "x/../a", "a/", "a/.", "a/../a", "../lib/a/.",
	}
}

func TestLoadOfAModuleThatAsksForItself(t *testing.T) {
	for _, spec := range waysToItself() {
		g := wantGraph(t, filesOf("/lib/a", asking(spec)), "/lib/a", []string{"/lib/a"}, link(0, spec, 0))
		wantOrder(t, g, 0)
		files := filesOf("/b", asking("a", "./c"), "/c", ``, "/lib/a", asking(spec, "../c"))
		g = wantGraph(t, files, "/b", []string{"/b", "/lib/a", "/c"}, link(1, spec, 1), link(1, "../c", 2), link(0, "a", 1), link(0, "./c", 2))
		wantOrder(t, g, 2, 1, 0)
		files = filesOf("/c", ``, "/lib/a", asking("../c", spec))
		g = wantGraph(t, files, "/lib/a", []string{"/lib/a", "/c"}, link(0, "../c", 1), link(0, spec, 0))
		wantOrder(t, g, 1, 0)
		// A module of its own name elsewhere is another one.
		files = filesOf("/a", asking("/lib/a", "./a"), "/lib/a", asking(spec, "/a"))
		g = wantGraph(t, files, "/a", []string{"/a", "/lib/a"}, link(1, spec, 1), link(1, "/a", 0), link(0, "/lib/a", 1), link(0, "./a", 0))
		wantOrder(t, g, 1, 0)
	}
	all, links := waysToItself(), []impl.Link{}
	for _, spec := range all {
		links = append(links, link(0, spec, 0))
	}
	wantGraph(t, filesOf("/lib/a", asking(all...)), "/lib/a", []string{"/lib/a"}, links...)
}

func TestLoadByTwoRequestsForOneModule(t *testing.T) {
	files := filesOf("/a", asking("./b", "/b", "./c", ".//b"), "/b", ``, "/c", asking("./b", "../b"))
	g := wantGraph(t, files, "/a", []string{"/a", "/b", "/c"}, link(0, "./b", 1), link(0, "/b", 1), link(2, "./b", 1), link(2, "../b", 1), link(0, "./c", 2), link(0, ".//b", 1))
	wantOrder(t, g, 1, 2, 0)
	// One request that stands in many items is one.
	text := `import "./b"; import { n } from "./b"; export * from "./b"; import * as m from "/b"; export { n } from "/b";`
	wantGraph(t, filesOf("/a", text, "/b", ``), "/a", []string{"/a", "/b"}, link(0, "./b", 1), link(0, "/b", 1))
	// As many requests as a module may have, all for one.
	for _, to := range []int{0, 1} {
		specs, links := []string{}, []impl.Link{}
		for i := range impl.MaxNames {
			spec := strings.Repeat("/", i%20+1) + "ab"[to:to+1]
			if i >= 20 {
				spec = "." + spec
			}
			specs, links = append(specs, spec), append(links, link(0, spec, to))
		}
		wantGraph(t, filesOf("/a", asking(specs...), "/b", ``), "/a", []string{"/a", "/b"}[:to+1], links...)
		wantFault(t, filesOf("/a", asking(append(specs, "/a/../"+"ab"[to:to+1])...), "/b", ``), "/a", impl.FaSyntax, "/a", len(asking(specs...))+len("import "))
	}
}

func TestLoadOfOddSpecs(t *testing.T) {
	for _, c := range []struct{ spec, path string }{
		{"", "/lib"}, {".", "/lib"}, {"b", "/lib/b"}, {"b/c", "/lib/b/c"}, {"../b", "/b"}, {"../../b", "/b"}, {".b", "/lib/.b"}, {"..b", "/lib/..b"}, {"b/../..", "/"},
		{"..", "/"}, {"/", "/"}, {"./", "/d"}, {"../", "/"}, {"./..", "/"}, {"./b/", "/d/b"}, {"b//c", "/lib/b/c"}, {".../b", "/lib/.../b"},
		{strings.Repeat("b", impl.MaxPath-5), "/lib/" + strings.Repeat("b", impl.MaxPath-5)},
	} {
		wantFault(t, filesOf("/d/a", asking(c.spec)), "/d/a", impl.FaMissing, c.path, 0)
		if c.path != "/" {
			wantGraph(t, filesOf("/d/a", asking(c.spec), c.path, ``), "/d/a", []string{"/d/a", c.path}, link(0, c.spec, 1))
		}
	}
}

// badSpecs lead from a file in /dir to no path, each for another reason.
func badSpecs() []string {
	return []string{"X", "./B", "/b c", " ", "a ", "./a:b", "b$", "../A", "*", "b?", "~", strings.Repeat("b", impl.MaxPath-4), strings.Repeat("/", impl.MaxStr-1) + "A", "./" + strings.Repeat("/", impl.MaxStr-2)}
}

func TestLoadOfRequestsThatLeadNowhere(t *testing.T) {
	for _, spec := range badSpecs() {
		from := "/dir/a"
		wantFault(t, filesOf(from, asking(spec)), from, impl.FaPath, from, 0)
		wantFault(t, filesOf(from, asking("./b", "./a", spec), "/dir/b", ``), from, impl.FaPath, from, 2)
		wantFault(t, filesOf(from, asking("./b"), "/dir/b", asking("./a", spec)), from, impl.FaPath, "/dir/b", 1)
	}
	// Its number is that of the request, however many items ask for those ahead.
	wantFault(t, filesOf("/a", `print(1); import "./b"; import { q } from "./b"; import "./b"; export * from "X";`, "/b", ``), "/a", impl.FaPath, "/a", 1)
	specs := []string{}
	for i := range impl.MaxNames {
		specs = append(specs, strings.Repeat("/", i%20+1)+"ab"[i/20:i/20+1])
	}
	for i := range specs {
		bad := slices.Clone(specs)
		bad[i] = "X"
		wantFault(t, filesOf("/a", asking(bad...), "/b", ``), "/a", impl.FaPath, "/a", i)
	}
	// The same spec leads to a path from a shorter one.
	spec := "./" + strings.Repeat("b", impl.MaxStr-5)
	files := filesOf("/a", asking(spec), "/long/a", asking("/a", spec), "/"+spec[2:], ``)
	wantGraph(t, files, "/a", []string{"/a", "/" + spec[2:]}, link(0, spec, 1))
	wantFault(t, files, "/long/a", impl.FaPath, "/long/a", 1)
}

func TestLoadOfSyntaxErrors(t *testing.T) {
	for _, c := range []struct {
		text  string
		place int
	}{
		{`;`, 0}, {`let = 1;`, 4}, {`let a = 1`, 9}, {`print(1); %`, 10}, {`fail 1;`, 5}, {`let a$ = 1;`, 5}, {`$ = 1;`, 0}, {`import "b`, 7}, {`"x"`, 0}, {`import { default } from "./b";`, 17},
		{strings.Repeat("print(1);", impl.MaxStmts) + "print(2);", 9*impl.MaxStmts + 8}, {strings.Repeat(" ", impl.MaxText-1) + ".", impl.MaxText - 1}, {asking("./q", "X") + "let", len(asking("./q", "X")) + 3},
	} {
		wantFault(t, filesOf("/a", c.text), "/a", impl.FaSyntax, "/a", c.place)
		wantFault(t, filesOf("/a", c.text, "/b", asking("./b", "./a")), "/b", impl.FaSyntax, "/a", c.place)
		wantFault(t, filesOf("/a", c.text, "/b", asking("./c"), "/c", asking("./b", "./a", "X")), "/b", impl.FaSyntax, "/a", c.place)
	}
}

// earlyTexts have an early error each, by its code.
func earlyTexts() []string {
	return []string{
		impl.EaDup:     `let a = 1; let a = 2;`,
		impl.EaExport:  `export let a = 1; export { a };`,
		impl.EaUnbound: `export { q };`,
		impl.EaSpace:   `import * as n from "./a"; print(n);`,
		impl.EaMember:  `print(m.a);`,
	}
}

func TestLoadOfEarlyErrors(t *testing.T) {
	for code, text := range earlyTexts()[1:] {
		wantFault(t, filesOf("/a", text), "/a", impl.FaEarly, "/a", code+1)
		wantFault(t, filesOf("/a", text, "/b", asking("./b", "./a")), "/b", impl.FaEarly, "/a", code+1)
		wantFault(t, filesOf("/a", text, "/b", asking("./c"), "/c", asking("./b", "./a", "X")), "/b", impl.FaEarly, "/a", code+1)
	}
	wantFault(t, filesOf("/a", strings.Join(earlyTexts()[2:], "")), "/a", impl.FaEarly, "/a", impl.EaExport)
}

func TestLoadOfMissingFiles(t *testing.T) {
	files := filesOf("/a", asking("./q"), "/b", asking("./b", "./c"), "/c", asking("./b", "r"))
	wantFault(t, files, "/a", impl.FaMissing, "/q", 0)
	wantFault(t, files, "/b", impl.FaMissing, "/lib/r", 0)
	wantFault(t, files, "/c", impl.FaMissing, "/lib/r", 0)
	// Where a request leads to is told, not how it is written, and no other ending is looked for.
	wantFault(t, filesOf("/a", asking("./x/..//d/./q"), "/d/q.js", ``, "/d/q/index.js", ``), "/a", impl.FaMissing, "/d/q", 0)
	for _, entry := range slices.Concat(noPaths(), []string{"/", "/q", "/a/", "//a", "/./a", "/a/.", "/x/../a", "/A", "/lib/a", "./a", "a"}) {
		wantFault(t, filesOf("/a", ``), entry, impl.FaMissing, entry, 0)
		wantFault(t, nil, entry, impl.FaMissing, entry, 0)
		wantFault(t, []impl.File{}, entry, impl.FaMissing, entry, 0)
	}
}

func TestLoadOfFilesThatAreNotRight(t *testing.T) {
	a, b := impl.File{Path: "/a", Text: asking("./b")}, impl.File{Path: "/b", Text: ``}
	many := []impl.File{a, b}
	for i := range impl.MaxFiles - 1 {
		many = append(many, impl.File{Path: "/c" + string(rune('a'+i))})
	}
	wantGraph(t, many[:impl.MaxFiles], "/a", []string{"/a", "/b"}, link(0, "./b", 1))
	for _, l := range [][]impl.File{
		{b, a}, {a, a}, {a, b, b}, {a, b, a}, {{Path: "/"}, a, b}, {a, b, {Path: "/c/"}}, {a, b, {Path: "c"}}, {a, b, {}}, {{}, a, b},
		{a, b, {Path: "/c", Text: strings.Repeat(" ", impl.MaxText+1)}}, {{Path: "/A"}, a, b}, many,
	} {
		for _, f := range l {
			wantFault(t, l, f.Path, impl.FaMissing, f.Path, 0)
		}
		wantFault(t, l, "/q", impl.FaMissing, "/q", 0)
	}
}

func TestLoadTellsTheFirstFaultOfAModule(t *testing.T) {
	syntax, early, path, missing := `let = 1;`, `export { q };`, asking("X"), asking("./q")
	for _, c := range []struct {
		text string
		kind int
	}{
		{early + syntax, impl.FaSyntax}, {syntax + early, impl.FaSyntax},
		{path + syntax, impl.FaSyntax}, {syntax + path, impl.FaSyntax},
		{missing + syntax, impl.FaSyntax}, {syntax + missing, impl.FaSyntax},
		{missing + path + early + syntax, impl.FaSyntax},
		{path + early, impl.FaEarly}, {early + path, impl.FaEarly},
		{missing + early, impl.FaEarly}, {early + missing, impl.FaEarly},
		{missing + path + early, impl.FaEarly}, {path + missing + early, impl.FaEarly},
		{path + missing, impl.FaPath}, {missing + path, impl.FaMissing},
	} {
		for _, files := range [][]impl.File{filesOf("/a", c.text), filesOf("/a", c.text, "/b", asking("./a", "Y", "./r"), "/c", syntax)} {
			for _, entry := range []string{"/a", "/b"} {
				if _, found := impl.Find(files, entry); !found {
					continue
				}
				if g, f := impl.Load(files, entry); f.Kind != c.kind || len(g.Mods) != 0 {
					t.Errorf("Load of %q from %s tells %v, not %d", c.text, entry, f, c.kind)
				}
			}
		}
	}
}

// faulty are modules at a path, each with a fault of its own and what is told of it.
func faulty(path string) []struct {
	text string
	f    impl.Fault
} {
	return []struct {
		text string
		f    impl.Fault
	}{
		{`let = 1;`, impl.Fault{Kind: impl.FaSyntax, Path: path, At: 4}},
		{`print(m.a);`, impl.Fault{Kind: impl.FaEarly, Path: path, At: impl.EaMember}},
		{asking(".//a", "X"), impl.Fault{Kind: impl.FaPath, Path: path, At: 1}},
		{asking("./q"), impl.Fault{Kind: impl.FaMissing, Path: "/q"}},
	}
}

func TestLoadTellsTheFirstFaultOfTheGraph(t *testing.T) {
	for _, b := range faulty("/b") {
		for _, c := range faulty("/c") {
			for _, behind := range []string{``, asking("X"), asking("./r"), asking("./d")} {
				files := filesOf("/a", asking("./b", "./c")+behind, "/b", b.text, "/c", c.text)
				wantFault(t, files, "/a", b.f.Kind, b.f.Path, b.f.At)
				files = filesOf("/a", asking("./c", "./b")+behind, "/b", b.text, "/c", c.text)
				wantFault(t, files, "/a", c.f.Kind, c.f.Path, c.f.At)
				// What is asked for far below counts ahead of a later request above.
				files = filesOf("/a", asking("./d", "./c")+behind, "/b", b.text, "/c", c.text, "/d", asking("./e", "X"), "/e", asking("./a", "./b"))
				wantFault(t, files, "/a", b.f.Kind, b.f.Path, b.f.At)
				// From /e on, /d is come to first, and finds /e there.
				wantFault(t, files, "/e", impl.FaPath, "/d", 1)
			}
			wantFault(t, filesOf("/a", asking("X", "./b"), "/b", b.text), "/a", impl.FaPath, "/a", 0)
			wantFault(t, filesOf("/a", asking("./r", "./b"), "/b", b.text), "/a", impl.FaMissing, "/r", 0)
			wantFault(t, filesOf("/a", asking("./b")+`export { q };`, "/b", b.text), "/a", impl.FaEarly, "/a", impl.EaUnbound)
			// One that is loaded already is not looked at again.
			wantFault(t, filesOf("/a", asking("./d", "./e"), "/d", asking("./a"), "/e", asking("./d", "./b"), "/b", b.text), "/a", b.f.Kind, b.f.Path, b.f.At)
		}
	}
}

// manyPaths are as many as files may be, with a spec each that leads there.
func manyPaths() (paths []string, specs []string) {
	for i := range impl.MaxFiles {
		name := "m" + string(rune('0'+i))
		paths, specs = append(paths, "/"+name), append(specs, "./"+name)
	}
	return paths, specs
}

func TestLoadOfMaxFilesInAChain(t *testing.T) {
	paths, specs := manyPaths()
	files, links := []impl.File{}, []impl.Link{}
	for i, path := range paths[:impl.MaxFiles-1] {
		files, links = append(files, impl.File{Path: path, Text: asking(specs[i+1])}), append(links, link(i, specs[i+1], i+1))
	}
	files = append(files, impl.File{Path: paths[impl.MaxFiles-1]})
	slices.Reverse(links)
	wantOrder(t, wantGraph(t, files, paths[0], paths, links...), 7, 6, 5, 4, 3, 2, 1, 0)
	files[impl.MaxFiles-1].Text = asking("./m8")
	wantFault(t, files, paths[0], impl.FaMissing, "/m8", 0)
	// With a ninth file none is found.
	wantFault(t, append(files, impl.File{Path: "/m8"}), paths[0], impl.FaMissing, paths[0], 0)
}

func TestLoadOfMaxFilesInAStar(t *testing.T) {
	paths, specs := manyPaths()
	files, links := []impl.File{{Path: paths[0], Text: asking(specs[1:]...)}}, []impl.Link{}
	for i := 1; i < impl.MaxFiles; i++ {
		files, links = append(files, impl.File{Path: paths[i]}), append(links, link(0, specs[i], i))
	}
	wantOrder(t, wantGraph(t, files, paths[0], paths, links...), 1, 2, 3, 4, 5, 6, 7, 0)
}

func TestLoadOfMaxFilesThatAllAskForAll(t *testing.T) {
	paths, specs := manyPaths()
	files, links := []impl.File{}, []impl.Link{}
	for i, path := range paths {
		files = append(files, impl.File{Path: path, Text: asking(specs...)})
		// Those up to itself are there already; the next one is loaded whole ahead of its Link.
		for j := range i + 1 {
			links = append(links, link(i, specs[j], j))
		}
	}
	for i := impl.MaxFiles - 2; i >= 0; i-- {
		for j := i + 1; j < impl.MaxFiles; j++ {
			links = append(links, link(i, specs[j], j))
		}
	}
	wantOrder(t, wantGraph(t, files, paths[0], paths, links...), 7, 6, 5, 4, 3, 2, 1, 0)
}

// plainLoad loads with a list of what is still to be done in the place of calls inside of calls.
func plainLoad(files []impl.File, entry string) (impl.Graph, impl.Fault) {
	type job struct {
		from, request int
		path          string
	}
	g, numbers := impl.Graph{}, map[string]int{}
	jobs := []job{{from: -1, path: entry}}
	for len(jobs) > 0 {
		last := jobs[len(jobs)-1]
		jobs = jobs[:len(jobs)-1]
		if last.from >= 0 && last.path == "" {
			return impl.Graph{}, impl.Fault{Kind: impl.FaPath, Path: g.Paths[last.from], At: last.request}
		}
		if number, found := numbers[last.path]; found {
			g.Links = append(g.Links, link(last.from, g.Mods[last.from].Requests[last.request], number))
			continue
		}
		text, found := impl.Find(files, last.path)
		if !found {
			return impl.Graph{}, impl.Fault{Kind: impl.FaMissing, Path: last.path}
		}
		m, bad := impl.Parse(text, false)
		if bad != -1 {
			return impl.Graph{}, impl.Fault{Kind: impl.FaSyntax, Path: last.path, At: bad}
		}
		if code := impl.Early(m, false); code != impl.EaOk {
			return impl.Graph{}, impl.Fault{Kind: impl.FaEarly, Path: last.path, At: code}
		}
		if last.from >= 0 {
			// It comes again behind all that the new one asks for, and finds it then.
			jobs = append(jobs, last)
		}
		number := len(g.Mods)
		numbers[last.path] = number
		g.Paths, g.Mods = append(g.Paths, last.path), append(g.Mods, m)
		for i := len(m.Requests) - 1; i >= 0; i-- {
			jobs = append(jobs, job{from: number, request: i, path: impl.Resolve(last.path, m.Requests[i])})
		}
	}
	return g, impl.Fault{}
}

// wantLoaded asks for what plainLoad tells, and for the promise of it.
func wantLoaded(t *testing.T, files []impl.File, entry string) (impl.Graph, impl.Fault) {
	t.Helper()
	g, f := impl.Load(files, entry)
	plain, plainFault := plainLoad(files, entry)
	if f != plainFault || !isSameGraph(g, plain) {
		t.Fatalf("Load(%v, %q) = %v, %v, %v, not %v, %v, %v", files, entry, g.Paths, g.Links, f, plain.Paths, plain.Links, plainFault)
	}
	if f.Kind == impl.FaNone {
		wantGraphOf(t, files, entry, g)
	}
	return g, f
}

// choicesOf are all lists of some of the items, each at most once, in each order.
func choicesOf(items []string) [][]string {
	all := [][]string{nil}
	for i := 0; i < len(all); i++ {
		for _, item := range items {
			if !slices.Contains(all[i], item) {
				all = append(all, append(slices.Clone(all[i]), item))
			}
		}
	}
	return all
}

func TestLoadOfAllGraphsOfThree(t *testing.T) {
	choices := choicesOf([]string{"./a", "./b", "./c"})
	for _, a := range choices {
		for _, b := range choices {
			for _, c := range choices {
				wantLoaded(t, filesOf("/a", asking(a...), "/b", asking(b...), "/c", asking(c...)), "/a")
			}
		}
	}
}

func TestLoadOfAllSmallFaults(t *testing.T) {
	texts := []string{`let = 1;`, `export { q };`}
	for _, choice := range choicesOf([]string{"./a", "./b", "X", "./q"}) {
		texts = append(texts, asking(choice...))
	}
	seen := map[int]int{}
	for _, a := range texts {
		for _, b := range texts {
			_, f := wantLoaded(t, filesOf("/a", a, "/b", b), "/a")
			seen[f.Kind]++
		}
	}
	for _, kind := range []int{impl.FaNone, impl.FaMissing, impl.FaSyntax, impl.FaEarly, impl.FaPath} {
		if seen[kind] == 0 {
			t.Errorf("no two files have %d: that tells too little", kind)
		}
	}
}

// someFiles are files that ask for each other in many ways; with faults, one in some is not as it should be.
func someFiles(r *rand.Rand, withFaults bool) []impl.File {
	paths := []string{"/a", "/b", "/d/a", "/d/e/a", "/lib/a", "/lib/b", "/lib/d/a", "/z"}
	r.Shuffle(len(paths), func(i, j int) { paths[i], paths[j] = paths[j], paths[i] })
	paths = paths[:1+r.Intn(len(paths))]
	files := []string{}
	for _, path := range paths {
		text := ""
		for range r.Intn(5) {
			text += asking(specTo(r, path, paths[r.Intn(len(paths))]))
		}
		if withFaults && r.Intn(6) == 0 {
			odd := []string{`let = 1;`, `let a = 1; let a = 2;`, `export { q };`, `print(m.a);`, asking("X"), asking("./q"), asking("q", "./Q")}
			text += odd[r.Intn(len(odd))]
		}
		files = append(files, path, text+`print(1);`)
	}
	return filesOf(files...)
}

// specTo is a spec that leads from one path to another.
func specTo(r *rand.Rand, from, to string) string {
	ways := []string{to, "/." + to, "/x/.." + to, strings.Repeat("../", strings.Count(from, "/")-1) + "." + to}
	if short, inLibrary := strings.CutPrefix(to, "/lib/"); inLibrary {
		ways = append(ways, short, short+"/.")
	}
	if folder := from[:strings.LastIndexByte(from, '/')+1]; strings.HasPrefix(to, folder) {
		ways = append(ways, "./"+to[len(folder):], ".//"+to[len(folder):])
	}
	return ways[r.Intn(len(ways))]
}

func TestLoadOfManyFiles(t *testing.T) {
	r := rand.New(rand.NewSource(7))
	graphs, faults := map[int]int{}, map[int]int{}
	for range 3000 {
		files := someFiles(r, false)
		for _, file := range files {
			g, f := wantLoaded(t, files, file.Path)
			if f != (impl.Fault{}) {
				t.Fatalf("Load(%v, %q) tells %v", files, file.Path, f)
			}
			graphs[len(g.Mods)]++
		}
		files = someFiles(r, true)
		_, f := wantLoaded(t, files, files[r.Intn(len(files))].Path)
		faults[f.Kind]++
	}
	for n := 1; n <= impl.MaxFiles; n++ {
		if graphs[n] < 100 {
			t.Errorf("%d graphs have %d modules: that tells too little", graphs[n], n)
		}
	}
	for _, kind := range []int{impl.FaNone, impl.FaMissing, impl.FaSyntax, impl.FaEarly, impl.FaPath} {
		if faults[kind] < 30 {
			t.Errorf("%d have %d: that tells too little", faults[kind], kind)
		}
	}
}

func TestLoadOfManyModules(t *testing.T) {
	k := newMaker(false)
	kinds := map[int]int{}
	for range 5000 {
		files := []string{}
		for _, path := range []string{"/a", "/b", "/lib/x", "/lib/y", "/x"} {
			_, text := k.make()
			files = append(files, path, text)
		}
		_, f := wantLoaded(t, filesOf(files...), "/a")
		kinds[f.Kind]++
	}
	if kinds[impl.FaNone] < 100 || kinds[impl.FaEarly] < 100 || kinds[impl.FaMissing] < 100 {
		t.Errorf("the kinds are %v: that tells too little", kinds)
	}
}

// textsOfGraph are the texts that stand in each list of a graph, but those that are constants of the language.
func textsOfGraph(g impl.Graph) [][]string {
	lists := [][]string{slices.Clone(g.Paths), nil}
	for _, link := range g.Links {
		lists[1] = append(lists[1], link.Spec)
	}
	for _, m := range g.Mods {
		lists = append(lists, textsOfLists(m)...)
	}
	isConstant := func(s string) bool { return s == "*" || s == "default" || s == impl.DefaultName }
	for i := range lists {
		lists[i] = slices.DeleteFunc(lists[i], isConstant)
	}
	return lists
}

// span is where a list stands, with the room behind it.
type span struct{ from, end uintptr }

func spanOf[T any](l []T) span {
	var item T
	from := uintptr(unsafe.Pointer(unsafe.SliceData(l)))
	return span{from, from + uintptr(cap(l))*unsafe.Sizeof(item)}
}

func spansOf(g impl.Graph) []span {
	spans := []span{spanOf(g.Paths), spanOf(g.Mods), spanOf(g.Links)}
	for _, m := range g.Mods {
		spans = append(spans, spanOf(m.Requests), spanOf(m.Imps), spanOf(m.Exps), spanOf(m.Stmts), spanOf(m.Exprs))
	}
	return spans
}

// memoryFiles have all that a module may have, in memory of their own.
func memoryFiles() []impl.File {
	text := `import { aa as bb } from "./bb"; import * as nn from "../bb"; export { cc } from "./aa"; export * from "aa"; export let ee = nn.ff() + gg; hh = ii();`
	return filesOf(strings.Clone("/aa"), strings.Clone(text), strings.Clone("/bb"), text+`import "/aa"; print(1);`, strings.Clone("/lib/aa"), strings.Clone(`import "./aa"; import "/bb"; export default 1;`))
}

func TestGraphsAreNewMemory(t *testing.T) {
	files, entry := memoryFiles(), strings.Clone("/aa")
	g, f := impl.Load(files, entry)
	again, _ := impl.Load(files, entry)
	if f != (impl.Fault{}) || !isSameGraph(g, again) {
		t.Fatalf("Load is not the same twice, or tells %v", f)
	}
	lists := textsOfGraph(g)
	others := slices.Concat(textsOfGraph(again), [][]string{{entry}})
	for _, file := range files {
		others = append(others, []string{file.Path, file.Text})
	}
	for i, list := range lists {
		for _, other := range slices.Concat(others, lists[:i]) {
			for _, text := range list {
				if slices.ContainsFunc(other, func(s string) bool { return sharesMemory(s, text) }) {
					t.Errorf("%q shares memory with another list or an argument", text)
				}
			}
		}
	}
	spans := append(spansOf(g), spansOf(again)...)
	for i, a := range spans {
		for _, b := range spans[:i] {
			if a.from < b.end && b.from < a.end && a.from < a.end && b.from < b.end {
				t.Errorf("two lists share memory: %v, %v", a, b)
			}
		}
	}
}

func TestFaultsAreNewMemory(t *testing.T) {
	files := filesOf("/aa", asking("XX"), "/bb", `let = 1;`, "/cc", `print(m.a);`, "/dd", asking("/qq"), "/ee", asking("./aa"), "/ff", asking("/bb"), "/gg", asking("/cc"))
	for i := range files {
		files[i].Path, files[i].Text = strings.Clone(files[i].Path), strings.Clone(files[i].Text)
	}
	for _, entry := range []string{"/aa", "/bb", "/cc", "/dd", "/ee", "/ff", "/gg", "/hh", "no path"} {
		_, f := impl.Load(files, entry)
		if f.Path == "" || sharesMemory(f.Path, entry) {
			t.Errorf("%v shares memory with the entry", f)
		}
		for _, file := range files {
			if sharesMemory(f.Path, file.Path) || sharesMemory(f.Path, file.Text) {
				t.Errorf("%v shares memory with %v", f, file)
			}
		}
	}
}

func TestLoadDoesNotWriteIntoFiles(t *testing.T) {
	r := rand.New(rand.NewSource(8))
	for range 500 {
		files := someFiles(r, true)
		spare := append(slices.Clone(files), impl.File{Path: "/zz", Text: "spare"})
		for _, entry := range []string{files[0].Path, "/zz", "/q"} {
			impl.Load(spare[:len(files)], entry)
		}
		if !slices.Equal(spare[:len(files)], files) || spare[len(files)] != (impl.File{Path: "/zz", Text: "spare"}) {
			t.Fatalf("the files were %v and are %v", files, spare)
		}
	}
}
