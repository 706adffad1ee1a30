package tests

import (
	"math/rand"
	"slices"
	"strings"
	"testing"

	"loop.example/g00777/impl"
)

func TestBundleOfGraphsThatAreNotRight(t *testing.T) {
	notRight := impl.Fault{Kind: impl.FaLink, At: -1}
	for _, g := range []impl.Graph{{}, {Mods: []impl.Mod{{}}}, {Paths: []string{"/a"}}, {Links: []impl.Link{{}}}, {Paths: []string{}, Mods: []impl.Mod{}, Links: []impl.Link{}}, {Paths: []string{"a"}, Mods: []impl.Mod{{}}}, {Paths: []string{"/a", "/b"}, Mods: []impl.Mod{{}, {}}}} {
		wantBundleFault(t, g, notRight)
	}
	wantBundle(t, impl.Graph{Paths: []string{"/"}, Mods: []impl.Mod{{}}}, "")
	for what, change := range map[string]func(g *impl.Graph){
		"a link lacks":             func(g *impl.Graph) { g.Links = g.Links[1:] },
		"a link to no module":      func(g *impl.Graph) { g.Links[0].To = 2 },
		"a link to below":          func(g *impl.Graph) { g.Links[0].To = -1 },
		"a path twice":             func(g *impl.Graph) { g.Paths[1] = g.Paths[0] },
		"a path that is none":      func(g *impl.Graph) { g.Paths[0] = "" },
		"a module not come to":     func(g *impl.Graph) { g.Links[0].To = 0 },
		"too many modules":         func(g *impl.Graph) { g.Mods = slices.Repeat(g.Mods, 5); g.Paths = slices.Repeat(g.Paths, 5) },
		"a statement of a script":  func(g *impl.Graph) { g.Mods[0].Stmts[1].Kind = impl.StFail },
		"a statement of no kind":   func(g *impl.Graph) { g.Mods[0].Stmts[0].Kind = 0 },
		"an expression of no kind": func(g *impl.Graph) { g.Mods[1].Exprs[0].Kind = 9 },
		"a name of a script":       func(g *impl.Graph) { g.Mods[0].Exprs[0].Name = "x$1" },
		"a name declared twice": func(g *impl.Graph) {
			g.Mods[1].Stmts = append(g.Mods[1].Stmts, impl.Stmt{Kind: impl.StLet, Name: "x", Expr: 1})
			g.Mods[1].Exprs = append(g.Mods[1].Exprs, impl.Expr{Kind: impl.ExNum})
		},
		"a default that is read":   func(g *impl.Graph) { g.Mods[0].Exprs[0].Name = impl.DefaultName },
		"an expression used twice": func(g *impl.Graph) { g.Mods[0].Stmts[1].Expr = 0 },
		"an expression beyond":     func(g *impl.Graph) { g.Mods[0].Stmts[1].Expr = 2 },
	} {
		g := cloneGraph(linked(t, `import { x } from "./b"; print(x); throw 1;`, `export let x = 1;`))
		change(&g)
		if _, f := wantBundled(t, g); f != notRight {
			t.Errorf("%s: Bundle tells %v", what, f)
		}
	}
	// A name that a script may have, but a module may not, is no way around.
	g := cloneGraph(linked(t, `import "./b"; let y = 1; print(y);`, `let y = 2;`))
	g.Mods[0].Stmts[0].Name, g.Mods[0].Exprs[1].Name = "y$1", "y$1"
	wantBundleFault(t, g, notRight)
}

func TestBundleOfGraphsThatDoNotLink(t *testing.T) {
	for _, c := range []struct {
		text string
		at   int
	}{
		{`import { none } from "./b";`, 100}, {`import { many } from "./b";`, 100}, {`import { x, hidden } from "./b";`, 101}, {`import * as n from "./b"; import d from "./c"; import { many as q } from "./b";`, 101}, {`export { none } from "./b";`, 0}, {`export { x, many } from "./b";`, 1}, {`import { none as q } from "./b"; export { q };`, 0},
	} {
		for _, behind := range []string{``, `print(1);`, strings.Repeat(`q = 1;`, impl.MaxStmts)} {
			wantBundleFault(t, linked(t, append([]string{c.text + behind}, oneExports()...)...), impl.Fault{Kind: impl.FaLink, Path: "/a", At: c.at})
		}
	}
	// It is the first one in Order.
	wantBundleFault(t, linked(t, `import { none } from "./b";`, `import "./c"; export { x, none } from "./c";`, `export let x = 1; import { none } from "./a"; import { nowhere } from "./c";`), impl.Fault{Kind: impl.FaLink, Path: "/c", At: 100})
	wantBundleFault(t, linked(t, `export { x } from "./b"; print(1);`, `export { x } from "./a";`), impl.Fault{Kind: impl.FaLink, Path: "/b", At: 0})
}

// bundleMany asks for what is promised of the bundles of many graphs, with each number of steps from 0 to most; it counts how they end, and their faults as 10 and their kind.
func bundleMany(t *testing.T, graphs, most int, seed int64, change func(k *runMaker, g *impl.Graph)) map[int]int {
	t.Helper()
	k := &runMaker{Rand: rand.New(rand.NewSource(seed))}
	ends := map[int]int{}
	for i := range graphs {
		g := cloneGraph(mustLoad(t, k.files(1+i%impl.MaxFiles), "/a"))
		change(k, &g)
		m, f := wantBundled(t, g)
		if f != (impl.Fault{}) {
			ends[10+f.Kind]++
			continue
		}
		wantBundleRun(t, g, m, append(firstFuels(most), impl.MaxFuel)...)
		ends[impl.Run(g, impl.MaxFuel).End]++
	}
	return ends
}

func TestBundleOfManyGraphs(t *testing.T) {
	ends := bundleMany(t, 800, 60, 15, func(k *runMaker, g *impl.Graph) {})
	wantEnds(t, ends, 10, impl.TrDone, impl.TrThrow, impl.TrRef, impl.TrType, impl.TrRange, 10+impl.FaLink)
}

func TestBundleOfManyGraphsThatAreLinkedOtherwise(t *testing.T) {
	ends := bundleMany(t, 800, 20, 16, func(k *runMaker, g *impl.Graph) {
		for i := range g.Links {
			if k.Intn(4) == 0 {
				g.Links[i].To = k.Intn(len(g.Mods))
			}
		}
		k.Shuffle(len(g.Links), func(i, j int) { g.Links[i], g.Links[j] = g.Links[j], g.Links[i] })
	})
	wantEnds(t, ends, 10, impl.TrDone, impl.TrRef, impl.TrType, 10+impl.FaLink)
}

func TestBundleOfManyGraphsThatAreGreat(t *testing.T) {
	// About as many statements as there may be in all, with some more in each module.
	ends := bundleMany(t, 400, 10, 17, func(k *runMaker, g *impl.Graph) {
		for m := range g.Mods {
			for range k.Intn(2 * impl.MaxStmts / len(g.Mods)) {
				mod := &g.Mods[m]
				mod.Exprs = append(mod.Exprs, impl.Expr{Kind: impl.ExName, Name: "hidden"})
				mod.Stmts = append(mod.Stmts, impl.Stmt{Kind: impl.StPrint, Expr: len(mod.Exprs) - 1})
			}
		}
	})
	wantEnds(t, ends, 10, impl.TrDone, impl.TrRef, 10+impl.FaBig, 10+impl.FaLink)
}

func TestBundleOfMeddledGraphs(t *testing.T) {
	k := newMaker(false)
	ends := bundleMany(t, 1500, 3, 18, func(_ *runMaker, g *impl.Graph) {
		for range 1 + k.Intn(2) {
			meddleGraph(k, g)
		}
	})
	wantEnds(t, ends, 10, impl.TrDone, impl.TrThrow, impl.TrRef, impl.TrType, 10+impl.FaLink)
}

func TestBundleOfManyModules(t *testing.T) {
	// Whatever a module may be made of, alone, with all its requests leading to itself.
	k := newMaker(false)
	ends := map[int]int{}
	for range 5000 {
		m, _ := k.make()
		g := scriptGraph(m)
		for _, spec := range m.Requests {
			g.Links = append(g.Links, link(0, spec, 0))
		}
		script, f := wantBundled(t, g)
		if f != (impl.Fault{}) {
			ends[10+f.Kind]++
			continue
		}
		wantBundleRun(t, g, script, append(firstFuels(8), impl.MaxFuel)...)
		ends[impl.Run(g, impl.MaxFuel).End]++
	}
	wantEnds(t, ends, 50, impl.TrDone, impl.TrRef, 10+impl.FaLink)
}

// memoryGraph has names of each kind, in memory of their own.
func memoryGraph(t *testing.T) impl.Graph {
	t.Helper()
	return linked(t, `import { there as here } from "./b"; import * as space from "./b"; import standard from "./b"; let own = here + space.there; own = space.give() + standard; here = nowhere; nowhere = space.nothing; nothing = own; export default own();`, `export let there = 1; export function give() { return there; } export default there; there = give();`)
}

func TestBundleIsNewMemory(t *testing.T) {
	g := memoryGraph(t)
	first, f := wantBundled(t, g)
	second, _ := impl.Bundle(g)
	if f != (impl.Fault{}) || !isSameMod(first, second) {
		t.Fatalf("Bundle is %+v and %+v, or tells %v", first, second, f)
	}
	lists := textsOfLists(first)
	if len(lists[3]) < 6 || len(lists[4]) < 8 {
		t.Fatalf("%+v has few names: that tells too little", first)
	}
	for _, text := range slices.Concat(lists...) {
		wantOwnMemory(t, text, g)
	}
	// The two lists share no text, but one that is a constant of the language.
	for _, text := range lists[3] {
		if slices.ContainsFunc(lists[4], func(s string) bool { return sharesMemory(s, text) }) {
			t.Errorf("%q stands in two lists", text)
		}
	}
	spans := append(spansOf(g), spanOf(first.Stmts), spanOf(first.Exprs), spanOf(second.Stmts), spanOf(second.Exprs))
	for i, a := range spans {
		for _, b := range spans[:i] {
			if a.from < b.end && b.from < a.end && a.from < a.end && b.from < b.end {
				t.Errorf("two lists share memory: %v, %v", a, b)
			}
		}
	}
	clear(first.Stmts[:cap(first.Stmts)])
	clear(first.Exprs[:cap(first.Exprs)])
	if again, _ := impl.Bundle(g); !isSameMod(again, second) {
		t.Error("an answer is kept")
	}
}

func TestFaultsOfBundlesAreNewMemory(t *testing.T) {
	for _, text := range []string{`import { none } from "./b";`, asking("./b") + strings.Repeat(`print(1);`, impl.MaxStmts)} {
		g := linked(t, text, `print(1);`)
		g.Paths[0] = strings.Clone("/long/path")
		_, f := wantBundled(t, g)
		if f.Path != "/long/path" {
			t.Errorf("Bundle tells %v", f)
		}
		wantOwnMemory(t, f.Path, g)
	}
}

func TestBundleDoesNotWriteIntoGraphs(t *testing.T) {
	k, r := newMaker(false), &runMaker{Rand: rand.New(rand.NewSource(19))}
	for i := range 1000 {
		g := cloneGraph(mustLoad(t, r.files(1+i%impl.MaxFiles), "/a"))
		if i%3 == 0 {
			meddleGraph(k, &g)
		}
		spare := graphWithSpare(g)
		first, f := impl.Bundle(spare)
		wantGraphSpare(t, spare, g)
		// Nor does what becomes of the answer.
		clear(first.Stmts[:cap(first.Stmts)])
		clear(first.Exprs[:cap(first.Exprs)])
		wantGraphSpare(t, spare, g)
		if second, again := impl.Bundle(spare); again != f || f == (impl.Fault{}) && !isSameMod(second, plainBundle(t, g)) {
			t.Fatalf("Bundle of %s tells %v and %v, and another script", textOf(g), f, again)
		}
	}
}
