package tests

import (
	"fmt"
	"math/rand"
	"slices"
	"strings"
	"testing"

	"loop.example/g00777/impl"
)

// plainLinkFault writes down all faults there are, each with where it stands, and tells the least.
func plainLinkFault(g impl.Graph) impl.Fault {
	type standing struct{ turn, at int }
	order, all := plainOrder(g), []standing{}
	for turn, m := range order {
		mod := g.Mods[m]
		imports := map[string]bool{}
		for i, imp := range mod.Imps {
			imports[imp.Local] = true
			if imp.From != "*" && plainBind(g, leadsTo(g, m, imp.Spec), imp.From).Kind != impl.BiFound {
				all = append(all, standing{turn, 100 + i})
			}
		}
		for i, exp := range mod.Exps {
			if (exp.Kind == impl.EpFrom || exp.Kind == impl.EpLocal && imports[exp.Local]) && plainBind(g, m, exp.Name).Kind != impl.BiFound {
				all = append(all, standing{turn, i})
			}
		}
	}
	if len(all) == 0 {
		return impl.Fault{}
	}
	first := slices.MinFunc(all, func(a, b standing) int { return (a.turn-b.turn)*1000 + a.at - b.at })
	return impl.Fault{Kind: impl.FaLink, Path: g.Paths[order[first.turn]], At: first.at}
}

func wantLinkFault(t *testing.T, g impl.Graph, path string, at int) {
	t.Helper()
	wantLinkFaultOf(t, g, impl.Fault{Kind: impl.FaLink, Path: path, At: at})
}

func wantLinkFaultOf(t *testing.T, g impl.Graph, want impl.Fault) {
	t.Helper()
	if got := impl.LinkFault(g); got != want {
		t.Errorf("LinkFault of %s is %v, not %v", textOf(g), got, want)
	}
	if plain := plainLinkFault(g); plain != want {
		t.Errorf("the plain fault of %s is %v, not %v", textOf(g), plain, want)
	}
}

// oneExports has a name of each kind, and one that is many.
func oneExports() []string {
	return []string{
		`export let x = 1; export function f() { return 1; } export default 2; export * from "./c"; export * from "./d"; let hidden = 1;`,
		`export let many = 1; export let y = 2;`, `export let many = 3; export let z = 4;`,
	}
}

func TestLinkFaultOfGraphsThatLink(t *testing.T) {
	for _, text := range []string{
		`import "./b";`, `import { x } from "./b";`, `import { x as a, f as b, y, z as d } from "./b";`, `import a from "./b";`, `import { default as a } from "./b";`,
		`export { x, f as g, default, y as h, z } from "./b";`, `import { x, y as q } from "./b"; export { x as a, q as b, q };`, `import a from "./b"; export { a as default };`,
		`export * from "./b";`, `export let x = 1; let q = 2; export { q as many }; export default 3; export * from "./b";`, `import "./b"; export { many } from "./c"; import { many as m } from "./d"; export { m };`,
		// A space is there, whatever is asked of it; so is a star, also one by which a name is many.
		`import * as n from "./b"; print(n.none); print(n.many()); n2 = n.hidden + n.default;`, `export * from "./b"; export * from "./c"; export * from "./d";`, `import * as a from "./b"; import * as b from "./a"; import * as c from "/b";`,
		// Free names are no imports.
		`import "./b"; print(x + many); none = 1;`,
		`import { x } from "./a"; export { x as w } from "./a"; export { y as x } from "./b";`,
	} {
		g := linked(t, append([]string{text}, oneExports()...)...)
		wantLinkFaultOf(t, g, impl.Fault{})
	}
	wantLinkFaultOf(t, linked(t, ``), impl.Fault{})
	wantLinkFaultOf(t, linked(t, `export * from "./a"; import { x as y } from "./a"; export let x = 1; export { y };`), impl.Fault{})
}

func TestLinkFaultOfNamesThatAreNotFound(t *testing.T) {
	for _, name := range []string{"none", "many", "hidden", "b", "X"} {
		for _, c := range []struct {
			text string
			at   int
		}{
			{`import { N } from "./b";`, 100}, {`import { N as x } from "./b";`, 100}, {`export { N } from "./b";`, 0}, {`export { N as x } from "./b";`, 0}, {`export { N as default } from "./b";`, 0},
			{`import { N } from "./b"; export { N };`, 0}, {`import { N as q } from "./b"; export { q as x };`, 0}, {`export { q as default }; import { N as q } from "./b";`, 0},
			// Their numbers are those among all Imps, and among all Exps.
			{`import { x, y, N } from "./b";`, 102}, {`import * as n from "./b"; import a from "./b"; import { N as c, x } from "./b";`, 102}, {`import { x, N as p, N as q } from "./b";`, 101},
			{`export { x, y as N, N as c } from "./b";`, 2}, {`export * from "./c"; export let x = 1; export { N } from "./b";`, 2}, {`import "./c"; export { x, N as p, N as q } from "./b";`, 1},
			{`export let x = 1; import { N as q } from "./b"; export * from "./c"; export { q, q as r };`, 2}, {`export default 1; export { N } from "./b";`, 0}, {`export default 1; export * from "./b"; export let w = 1; export { N } from "./b";`, 2},
			// An Exp counts ahead of an Imp.
			{`import { N } from "./b"; export { x, N as y } from "./b";`, 1}, {`import { N as a, x, N as b } from "./b"; export { x, b };`, 1}, {`import { N as a } from "./b"; export { x as w } from "./b";`, 100},
			{`import { N as a, x } from "./b"; export { x }; export let w = 1; export default 2;`, 100},
		} {
			g := linked(t, append([]string{named(c.text, name)}, oneExports()...)...)
			wantLinkFault(t, g, "/a", c.at)
		}
	}
	// Default behind a star, and of a module that has none.
	g := linked(t, `import a from "./b";`, `export * from "./c";`, `export default 1;`)
	wantLinkFault(t, g, "/a", 100)
	g = linked(t, `export { default } from "./b"; export { default as a } from "./c";`, `export * from "./c";`, `export default 1;`)
	wantLinkFault(t, g, "/a", 0)
	// A name of its own that comes to nothing is a fault, also where a star has it.
	g = linked(t, `export * from "./b"; export { none as x } from "./b";`, `export let x = 1;`)
	wantLinkFault(t, g, "/a", 1)
	g = linked(t, `import { w as q } from "./b"; export * from "./b"; export { q as x };`, `export let x = 1;`)
	wantLinkFault(t, g, "/a", 1)
}

func TestLinkFaultOfNoneAndManyAlike(t *testing.T) {
	b := oneExports()
	for _, first := range []string{"none", "many"} {
		for _, second := range []string{"many", "none"} {
			texts := func(a string) []string {
				return append([]string{strings.NewReplacer("N", first, "M", second).Replace(a)}, b...)
			}
			wantLinkFault(t, linked(t, texts(`import { x, N as p, y, M as q } from "./b";`)...), "/a", 101)
			wantLinkFault(t, linked(t, texts(`export { x, N as p, y, M as q } from "./b";`)...), "/a", 1)
			wantLinkFault(t, linked(t, texts(`import { N as p, M as q } from "./b"; export { q }; export { p };`)...), "/a", 0)
			wantLinkFault(t, linked(t, texts(`import { N as p } from "./b"; export * from "./b"; export { M as q } from "./b";`)...), "/a", 1)
		}
	}
}

func TestLinkFaultOfNamesThatGoRound(t *testing.T) {
	wantLinkFault(t, linked(t, `export let a = 1; export { x } from "./a";`), "/a", 1)
	wantLinkFault(t, linked(t, `import { x } from "./a"; export { x };`), "/a", 0)
	wantLinkFault(t, linked(t, `import { x } from "./a";`), "/a", 100)
	wantLinkFault(t, linked(t, `import { x } from "./a"; export * from "./a";`), "/a", 100)
	wantLinkFault(t, linked(t, `export { x } from "./b";`, `export { x } from "./a";`), "/b", 0)
	wantLinkFault(t, linked(t, `export * from "./b";`, `export * from "./c"; import { none } from "./a";`, `export * from "./a";`), "/b", 100)
	wantLinkFault(t, linked(t, `export * from "./b";`, `export * from "./c";`, `export * from "./a"; export let x = 1; export { none } from "./a";`), "/c", 2)
	wantLinkFaultOf(t, linked(t, `export * from "./b"; import { x } from "./a";`, `export * from "./c"; import { x } from "./b";`, `export * from "./a"; export let x = 1; export { x as y } from "./a";`), impl.Fault{})
	wantLinkFault(t, linked(t, `export * from "./b"; export * from "./c";`, `export * from "./a"; export let x = 1;`, `export * from "./b"; export let x = 2; import { x as y } from "./a";`), "/c", 100)
}

func TestLinkFaultIsTheFirstInOrder(t *testing.T) {
	// Each of these asks for itself, too: that changes no order.
	faults := []struct {
		text string
		at   int
	}{{`import { x as p, none as q } from "S";`, 101}, {`export { x as p, none } from "S";`, 1}, {`import { none as q } from "S"; export { x as p } from "S"; export { q };`, 1}}
	for _, c := range []struct {
		asks  []string
		order string
	}{
		{[]string{asking("./b", "./c", "./d"), ``, ``, ``}, "bcda"}, {[]string{asking("./d", "./c", "./b"), ``, ``, ``}, "dcba"}, {[]string{asking("./b"), asking("./c"), asking("./d"), ``}, "dcba"},
		{[]string{asking("./c", "./b"), asking("./d"), asking("./b"), ``}, "dbca"}, {[]string{asking("./c"), asking("./d", "./a"), asking("./d", "./b"), asking("./c")}, "dbca"},
	} {
		for which := range 1 << 4 {
			for shift := range faults {
				texts, ats := []string{}, map[string]int{}
				for m, asks := range c.asks {
					path := "/" + string(rune('a'+m))
					text := asks + `import "` + path + `"; let l = 1;`
					if which>>m&1 == 1 {
						fault := faults[(m+shift)%len(faults)]
						text += strings.ReplaceAll(fault.text, "S", path)
						ats[path] = fault.at
					}
					texts = append(texts, text+`export { l as x };`)
				}
				g := linked(t, texts...)
				want := impl.Fault{}
				for _, letter := range c.order {
					path := "/" + string(letter)
					if at, isBad := ats[path]; isBad && want.Kind == impl.FaNone {
						want = impl.Fault{Kind: impl.FaLink, Path: path, At: at}
					}
				}
				wantLinkFaultOf(t, g, want)
				slices.Reverse(g.Links)
				wantLinkFaultOf(t, g, want)
			}
		}
	}
	// Along a way on which all pass on what the last one lacks, the one next to it is told.
	wantLinkFault(t, linked(t, `export { x } from "./b";`, `import { x } from "./c"; export { x };`, `export { x } from "./d";`, ``), "/c", 0)
	wantLinkFault(t, linked(t, `export { x } from "./b";`, `import { x } from "./c"; export { x };`, `export * from "./d";`, ``), "/b", 0)
	wantLinkFault(t, linked(t, `import { x } from "./b";`, `export * from "./c";`, `export * from "./d";`, ``), "/a", 100)
	// An Imp of one that runs first is told ahead of an Exp of one that runs later.
	wantLinkFault(t, linked(t, `export { none } from "./b";`, `import { none } from "./a";`), "/b", 100)
}

func TestLinkFaultOfTheLastNames(t *testing.T) {
	imps, exps := []string{}, []string{}
	for i := range impl.MaxNames {
		imps, exps = append(imps, fmt.Sprint("x as i", i)), append(exps, fmt.Sprint("x as e", i))
	}
	text := func() string {
		return `import{` + strings.Join(imps, ",") + `}from"/b";export{` + strings.Join(exps, ",") + `}from"/b";`
	}
	wantLinkFaultOf(t, linked(t, text(), `export let x = 1;`), impl.Fault{})
	for i := impl.MaxNames - 1; i >= 0; i-- {
		imps[i] = fmt.Sprint("none as i", i)
		wantLinkFault(t, linked(t, text(), `export let x = 1;`), "/a", 100+i)
	}
	for i := impl.MaxNames - 1; i >= 0; i-- {
		exps[i] = fmt.Sprint("none as e", i)
		wantLinkFault(t, linked(t, text(), `export let x = 1;`), "/a", i)
	}
}

// wantExports holds all that chapter 8 tells of a right graph against the plain rules and the promise; it counts the kinds of binds.
func wantExports(t *testing.T, g impl.Graph, kinds map[int]int) impl.Fault {
	t.Helper()
	names := []string{"", "default", "none"}
	for _, m := range g.Mods {
		names = append(names, exportedBy(m)...)
	}
	slices.Sort(names)
	fault := impl.LinkFault(g)
	if want := plainLinkFault(g); fault != want {
		t.Fatalf("LinkFault of %s is %v, not %v", textOf(g), fault, want)
	}
	for m := range g.Mods {
		exports := impl.Exported(g, m)
		if want := plainExported(g, m); !slices.Equal(exports, want) {
			t.Fatalf("Exported of %d of %s is %q, not %q", m, textOf(g), exports, want)
		}
		for _, name := range slices.Compact(names) {
			bind := impl.ResolveExport(g, m, name)
			if want := plainBind(g, m, name); bind != want {
				t.Fatalf("ResolveExport of %q of %d of %s is %v, not %v", name, m, textOf(g), bind, want)
			}
			wantPromisedBind(t, g, slices.Contains(exports, name), fault, bind)
			kinds[bind.Kind]++
		}
	}
	return fault
}

// wantPromisedBind asks for what is promised of a name that is exported, or is not.
func wantPromisedBind(t *testing.T, g impl.Graph, isExported bool, fault impl.Fault, bind impl.Bind) {
	t.Helper()
	switch {
	case bind.Kind == impl.BiFound:
		m := g.Mods[bind.Mod]
		declares := slices.ContainsFunc(m.Stmts, func(s impl.Stmt) bool {
			return (s.Kind == impl.StLet || s.Kind == impl.StFn) && s.Name == bind.Name
		})
		exports := slices.ContainsFunc(m.Exps, func(e impl.Exp) bool { return e.Kind == impl.EpLocal && e.Local == bind.Name })
		if !isExported || !declares || !exports {
			t.Fatalf("%v is found, but not exported, or not declared, in %s", bind, textOf(g))
		}
	case bind.Mod != 0 || bind.Name != "":
		t.Fatalf("%v is not found, and has something, in %s", bind, textOf(g))
	case isExported && bind.Kind == impl.BiNone && fault == (impl.Fault{}):
		t.Fatalf("a name is exported and not there, and %s links", textOf(g))
	case !isExported && bind.Kind != impl.BiNone:
		t.Fatalf("a name is not exported, and is %v, in %s", bind, textOf(g))
	}
}

func TestExportsOfAllGraphsOfTwo(t *testing.T) {
	// What a module has of x and of y, and its stars, in all ways.
	texts := []string{}
	for _, x := range []string{``, `export let x = 1;`, `export { x } from "./b";`, `export { y as x } from "./b";`, `import { y as l } from "./a"; export { l as x };`} {
		for _, y := range []string{``, `export let y = 1;`, `export { y } from "./b";`, `export { x as y } from "./a";`} {
			for _, stars := range choicesOf([]string{"./a", "./b"}) {
				text := x + y
				for _, spec := range stars {
					text += `export * from "` + spec + `";`
				}
				texts = append(texts, text)
			}
		}
	}
	turned := strings.NewReplacer("./a", "./b", "./b", "./a")
	kinds, links := map[int]int{}, 0
	for _, a := range texts {
		for _, b := range texts {
			fault := wantExports(t, linked(t, a+`import "./b";`, turned.Replace(b)), kinds)
			if fault == (impl.Fault{}) {
				links++
			}
		}
	}
	// Many takes three modules.
	if min(kinds[impl.BiNone], kinds[impl.BiFound], links) < 1000 {
		t.Errorf("the kinds are %v, and %d link: that tells too little", kinds, links)
	}
}

func TestExportsOfAllStarsOfThree(t *testing.T) {
	choices := choicesOf([]string{"./a", "./b", "./c"})
	texts := []string{}
	for _, own := range []string{``, `export let x = 1;`} {
		for _, choice := range choices {
			text := own
			for _, spec := range choice {
				text += `export * from "` + spec + `";`
			}
			texts = append(texts, text)
		}
	}
	kinds := map[int]int{}
	for _, a := range texts {
		for _, b := range texts {
			for _, c := range texts {
				g := mustLoad(t, filesOf("/a", a, "/b", b, "/c", c), "/a")
				if want := plainBind(g, 0, "x"); impl.ResolveExport(g, 0, "x") != want {
					t.Fatalf("ResolveExport of x of %s is not %v", textOf(g), want)
				}
				kinds[plainBind(g, 0, "x").Kind]++
			}
		}
	}
	for kind := impl.BiNone; kind <= impl.BiMany; kind++ {
		if kinds[kind] < 100 {
			t.Errorf("the kinds are %v: that tells too little", kinds)
		}
	}
}

func TestExportsOfManyGraphs(t *testing.T) {
	r := rand.New(rand.NewSource(11))
	kinds, places, turned := map[int]int{}, map[int]int{}, 0
	for i := range 2000 {
		files := exportFiles(r, 1+i%impl.MaxFiles)
		g := mustLoad(t, files, files[r.Intn(len(files))].Path)
		if i%3 == 0 {
			// Links may lead anywhere, and stand in any order.
			for j := range g.Links {
				if r.Intn(4) == 0 {
					g.Links[j].To = r.Intn(len(g.Mods))
				}
			}
			r.Shuffle(len(g.Links), func(i, j int) { g.Links[i], g.Links[j] = g.Links[j], g.Links[i] })
			if !impl.GraphOk(g) {
				wantNothing(t, "links elsewhere", g, 0, len(g.Mods)-1)
				continue
			}
			turned++
		}
		fault := wantExports(t, g, kinds)
		switch {
		case fault == (impl.Fault{}):
			places[0]++
		case fault.At < 100:
			places[1]++
		default:
			places[2]++
		}
	}
	if min(kinds[impl.BiNone], kinds[impl.BiFound], kinds[impl.BiMany], places[0], places[1], places[2], turned) < 200 {
		t.Errorf("the kinds are %v, the places %v, and %d are turned: that tells too little", kinds, places, turned)
	}
}

// wantOwnMemory asks that a text shares no memory with any of a graph.
func wantOwnMemory(t *testing.T, text string, g impl.Graph) {
	t.Helper()
	for _, list := range textsOfGraph(g) {
		for _, other := range list {
			if sharesMemory(text, other) {
				t.Fatalf("%q shares memory with %q", text, other)
			}
		}
	}
}

func TestExportsAreNewMemory(t *testing.T) {
	g := linked(t, `export * from "./b"; export let own = 1; export { ll as passed }; import { there as ll } from "./b"; export { there as from } from "./b";`, `export let there = 1; let hidden = 2; export { hidden as shown }; export default 3;`)
	first, second := impl.Exported(g, 0), impl.Exported(g, 0)
	if len(first) != 5 || !slices.Equal(first, second) || &first[0] == &second[0] {
		t.Fatalf("Exported is %q and %q, or shares memory", first, second)
	}
	for i, name := range first {
		wantOwnMemory(t, name, g)
		if sharesMemory(name, second[i]) {
			t.Errorf("two answers share %q", name)
		}
		asked := strings.Clone(name)
		bind := impl.ResolveExport(g, 0, asked)
		if bind.Kind != impl.BiFound || sharesMemory(bind.Name, asked) {
			t.Errorf("%v is not found, or shares memory with the name", bind)
		}
		wantOwnMemory(t, bind.Name, g)
	}
	clear(first)
	if !slices.Equal(impl.Exported(g, 0), second) {
		t.Error("an answer is kept")
	}
	for _, text := range []string{`import { none } from "./b";`, `export { none } from "./b";`} {
		g := linked(t, text, ``)
		g.Paths[0] = strings.Clone("/long/path")
		f := impl.LinkFault(g)
		if f.Path != "/long/path" {
			t.Errorf("LinkFault tells %v", f)
		}
		wantOwnMemory(t, f.Path, g)
	}
}

func TestExportsDoNotWriteIntoGraphs(t *testing.T) {
	r, k := rand.New(rand.NewSource(12)), newMaker(false)
	for i := range 1000 {
		files := exportFiles(r, 1+i%impl.MaxFiles)
		g := cloneGraph(mustLoad(t, files, files[0].Path))
		if i%3 == 0 {
			meddleGraph(k, &g)
		}
		spare := graphWithSpare(g)
		for m := -1; m <= len(g.Mods); m++ {
			impl.Exported(spare, m)
			impl.ResolveExport(spare, m, "x")
			impl.ResolveExport(spare, m, "none")
		}
		impl.LinkFault(spare)
		wantGraphSpare(t, spare, g)
	}
}
