package tests

import (
	"fmt"
	"math"
	"slices"
	"strings"
	"testing"

	"loop.example/g00777/impl"
)

// wantTrimmedCourse asks for a course of a graph, and of it trimmed, with each number of steps; left are the Locals of the Imps of each module that are left.
func wantTrimmedCourse(t *testing.T, g impl.Graph, text string, left ...string) {
	t.Helper()
	wantGraphCourse(t, g, text)
	trimmed := wantTrimmedGraph(t, g, math.MaxInt)
	wantGraphCourse(t, trimmed, text)
	wantSameNames(t, g, trimmed)
	for i, m := range trimmed.Mods {
		locals := []string{}
		for _, imp := range m.Imps {
			locals = append(locals, imp.Local)
		}
		if got := strings.Join(locals, " "); i >= len(left) || got != left[i] {
			t.Errorf("of module %d of %s the Imps %q are left, not those of %q", i, textOf(g), got, left)
		}
	}
}

func TestTrimAll(t *testing.T) {
	// A module that nobody has a name of runs all the same.
	wantTrimmedCourse(t, linked(t, `import { v } from "./b"; print(2);`, `export let v = 1; print(v);`), `4:1 6:2 6:done`, ``, ``)
	wantTrimmedCourse(t, linked(t, `import { v, w } from "./b"; print(w);`, `export let v = 1; export let w = 2; print(v);`), `6:1 8:2 8:done`, `w`, ``)
	wantTrimmedCourse(t, linked(t, `import * as n from "./b"; print(2);`, `export let v = 1;`), `4:2 4:done`, ``, ``)
	wantTrimmedCourse(t, linked(t, `import * as n from "./b"; import * as m from "./b"; print(n.v + n.m);`, `export let v = 1; export let m = 5;`), `8:6 8:done`, `n`, ``)
	wantTrimmedCourse(t, linked(t, `import v from "./b"; import w from "./b"; print(w);`, `export default 7;`), `4:7 4:done`, `w`, ``)
	// The order in which they run is that of the requests, which stay.
	wantTrimmedCourse(t, linked(t, `import { c } from "./c"; import { b } from "./b"; print(b);`, `export let b = 1; print(b);`, `export let c = 2; print(c);`), `4:2 8:1 10:1 10:done`, `b`, ``, ``)
	// Names that are called, written, exported on.
	wantTrimmedCourse(t, linked(t, `import { f, g, h } from "./b"; print(f());`, `export function f() { return 3; } export function g() { return 4; } export { g as h };`), `5:3 5:done`, `f`, ``)
	wantTrimmedCourse(t, linked(t, `import { a, b } from "./b"; print(1); b = 2; print(3);`, `export let a = 1; export let b = 1;`), `6:1 8:type`, `b`, ``)
	wantTrimmedCourse(t, linked(t, `import { x } from "./b"; print(x);`, `import { v, w, z } from "./c"; export { v as x }; print(w);`, `export let v = 5; export let w = 6; export let z = 7;`), `8:6 10:5 10:done`, `x`, `v w`, ``)
	wantTrimmedCourse(t, linked(t, `import { f } from "./b"; import { q } from "./c"; print(f());`, `import { q, r } from "./c"; export function f() { return q; }`, `export let q = 1; export let r = 2; q = 9;`), `10:9 10:done`, `f`, `q`, ``)
}

func TestTrimAllOfWhatEnds(t *testing.T) {
	// The one that ends all is the one that nobody has a name of.
	wantTrimmedCourse(t, linked(t, `import { v } from "./b"; print(1);`, `export let v = 1; throw v;`), `4:throw:1`, ``, ``)
	wantTrimmedCourse(t, linked(t, `import { v } from "./b"; print(1);`, `export let v = none;`), `2:ref`, ``, ``)
	wantTrimmedCourse(t, linked(t, `import { v } from "./b"; print(1);`, `import { w, z } from "./c"; export let v = 2; w = v;`, `export let w = 1; export let z = 2;`), `8:type`, ``, `w`, ``)
	wantTrimmedCourse(t, linked(t, `import { v } from "./b"; print(1);`, `import { f, g } from "./c"; export let v = f();`, `export function f() { return f(); } export let g = 1;`), `35:range`, ``, `f`, ``)
	// A name that is read ahead of its place is used; one that would be, and is not read, is no fault.
	wantTrimmedCourse(t, linked(t, `import "./b"; export let x = 1; export let y = 2;`, `import { x, y } from "./a"; print(0); print(x);`), `2:0 4:ref`, ``, `x`)
	wantTrimmedCourse(t, linked(t, `import "./b"; export let x = 1; export let y = 2; print(x);`, `import { x, y } from "./a"; print(0);`), `2:0 8:1 8:done`, ``, ``)
}

func TestTrimAllOfStarsAndCycles(t *testing.T) {
	wantTrimmedCourse(t, linked(t, `import { x, y } from "./b"; import * as n from "./b"; print(y);`, `export * from "./c"; export * from "./d";`, `export let x = 1;`, `export let y = 2; print(0);`), `6:0 8:2 8:done`, `y`, ``, ``, ``)
	wantTrimmedCourse(t, linked(t, `import * as n from "./b"; import { x } from "./b"; print(n.x); print(n.none);`, `export * from "./c"; import { x } from "./c";`, `export let x = 1; export * from "./b";`), `4:1 6:undefined 6:done`, `n`, ``, ``)
	// Each imports of the other one, and of itself.
	wantTrimmedCourse(t, linked(t, `import { g, y } from "./b"; import { x as own, f as self } from "./a"; export let x = 1; export function f() { return x; } print(g() + own);`, `import { f, x } from "./a"; export let y = 2; export function g() { return f() * 10; } print(f);`), `5:function 16:11 16:done`, `g own`, `f`)
	wantTrimmedCourse(t, linked(t, `import { b } from "./b"; export let a = 1; print(1);`, `import { c } from "./c"; export let b = 1; print(2);`, `import { a } from "./a"; export let c = 1; print(3);`), `4:3 8:2 12:1 12:done`, ``, ``, ``)
	// What is asked for alone, and an export from, have no Imps.
	wantTrimmedCourse(t, linked(t, `import "./b"; export { x as z } from "./c"; import { z, w } from "./a"; print(z); export { w } from "./c";`, `import { x } from "./c"; import "./a"; print(5);`, `export let x = 1; export let w = 2; print(4);`), `6:4 8:5 10:1 10:done`, `z`, ``, ``)
}

func TestTrimAllOfGraphsThatDoNotLink(t *testing.T) {
	// They are trimmed like any other: what lacks a name that nobody uses does not lack it any more.
	g := linked(t, `import { none, x } from "./b"; print(x);`, `export let x = 1;`)
	wantNoRun(t, "a name that lacks", g)
	trimmed := wantTrimmedGraph(t, g, 0)
	if f := impl.LinkFault(trimmed); f != (impl.Fault{}) || len(trimmed.Mods[0].Imps) != 1 {
		t.Errorf("LinkFault of %s is %v", textOf(trimmed), f)
	}
	wantGraphCourse(t, trimmed, `4:1 4:done`)
	for _, text := range []string{`import { none } from "./b"; print(none);`, `import { none } from "./b"; export { none };`, `export { none } from "./b";`, `import { x, none } from "./b"; none = 1;`, `import { default as d } from "./b"; throw d();`} {
		g := linked(t, text, `export let x = 1;`)
		wantNoRun(t, text, g)
		wantNoRun(t, text, wantTrimmedGraph(t, g, 0))
	}
}

// wantNoGraph asks for the zero Graph.
func wantNoGraph(t *testing.T, what string, g impl.Graph) {
	t.Helper()
	if impl.GraphOk(g) {
		t.Fatalf("%s: it is right", what)
	}
	if got := impl.TrimAll(g); !isSameGraph(got, impl.Graph{}) {
		t.Errorf("%s: TrimAll is %+v", what, got)
	}
}

func TestTrimAllOfGraphsThatAreNotRight(t *testing.T) {
	make := func() impl.Graph {
		return linked(t, `import { x, y } from "./b"; print(x); throw 1;`, `export let x = 1; export let y = 2; import * as n from "./c"; print(2);`, `import "./a"; print(3); export default 4;`)
	}
	wantTrimmedCourse(t, make(), `2:3 10:2 12:1 14:throw:1`, `x`, ``, ``)
	for what, change := range map[string]func(g *impl.Graph){
		"a link lacks":            func(g *impl.Graph) { g.Links = g.Links[1:] },
		"a link twice":            func(g *impl.Graph) { g.Links = append(g.Links, g.Links[0]) },
		"a link to no module":     func(g *impl.Graph) { g.Links[0].To = 3 },
		"a link below":            func(g *impl.Graph) { g.Links[1].To = -1 },
		"a link of another spec":  func(g *impl.Graph) { g.Links[2].Spec = "./b" },
		"no links":                func(g *impl.Graph) { g.Links = nil },
		"a path lacks":            func(g *impl.Graph) { g.Paths = g.Paths[:2] },
		"a path more":             func(g *impl.Graph) { g.Paths = append(g.Paths, "/d") },
		"a path twice":            func(g *impl.Graph) { g.Paths[2] = "/a" },
		"a path that is none":     func(g *impl.Graph) { g.Paths[1] = "/b/" },
		"a module not come to":    func(g *impl.Graph) { g.Mods, g.Paths = append(g.Mods, impl.Mod{}), append(g.Paths, "/d") },
		"a module that is none":   func(g *impl.Graph) { g.Mods[2].Exprs = nil },
		"a request twice":         func(g *impl.Graph) { g.Mods[2].Requests = append(g.Mods[2].Requests, "./a") },
		"no requests":             func(g *impl.Graph) { g.Mods[0].Requests, g.Links = nil, g.Links[1:] },
		"an early error":          func(g *impl.Graph) { g.Mods[1].Exps[0].Local = "q" },
		"a space alone":           func(g *impl.Graph) { g.Mods[0].Imps[0].From = "*" },
		"a statement of a script": func(g *impl.Graph) { g.Mods[0].Stmts[1].Kind = impl.StFail },
		"a statement of no kind":  func(g *impl.Graph) { g.Mods[0].Stmts[0].Kind = 0 },
		// Without the Imps that nobody uses these would be right.
		"an unused name of a word":     func(g *impl.Graph) { g.Mods[0].Imps[1].Local = "let" },
		"an unused name twice":         func(g *impl.Graph) { g.Mods[0].Imps = append(g.Mods[0].Imps, g.Mods[0].Imps[1]) },
		"an unused name of no request": func(g *impl.Graph) { g.Mods[0].Imps[1].Spec = "./q" },
		"an unused name without From":  func(g *impl.Graph) { g.Mods[0].Imps[1].From = "" },
	} {
		g := cloneGraph(make())
		change(&g)
		wantNoGraph(t, what, g)
	}
	for _, g := range []impl.Graph{{}, {Mods: []impl.Mod{{}}}, {Paths: []string{"/a"}}, {Links: []impl.Link{{}}}, {Paths: []string{}, Mods: []impl.Mod{}, Links: []impl.Link{}}} {
		wantNoGraph(t, "a graph of nothing", g)
	}
	for code, text := range earlyTexts()[1:] {
		g := scriptGraph(mustParse(t, `import { v } from "./x"; print(1);`+text, false))
		for _, spec := range g.Mods[0].Requests {
			g.Links = append(g.Links, link(0, spec, 0))
		}
		wantNoGraph(t, fmt.Sprint("the early error ", code+1), g)
	}
	for _, paths := range [][]string{{"/"}, {"/a"}, {"/a/b.c"}} {
		g := impl.Graph{Paths: paths, Mods: []impl.Mod{{}}}
		if got := wantTrimmedGraph(t, g, 3); !isSameGraph(got, g) {
			t.Errorf("TrimAll of a module of nothing is %+v", got)
		}
	}
}

func TestTrimAllAtTheLimits(t *testing.T) {
	// As many modules as there may be, each with as many imports as there may be, of each of them; a third are used.
	texts := []string{}
	for i := range impl.MaxFiles {
		text := ``
		for j := range impl.MaxNames {
			to := string(rune('a' + (i+j+1)%impl.MaxFiles))
			text += fmt.Sprintf(`import { %s as i%d } from "/%s";`, []string{"x", "f", "default"}[j%3], j, to)
		}
		text += `export let x = 1; export function f() { return x; } export default 2;`
		for j := 0; j < impl.MaxNames; j += 3 {
			text += fmt.Sprintf("print(i%d);", j)
		}
		texts = append(texts, text)
	}
	g := linked(t, texts...)
	trimmed := wantTrimmedGraph(t, g, 30)
	for m := range trimmed.Mods {
		if n := len(trimmed.Mods[m].Imps); n != (impl.MaxNames+2)/3 {
			t.Errorf("module %d has %d Imps left", m, n)
		}
	}
	one := graphOf(1, link(0, "x", 0), link(0, "y", 0))
	for range impl.MaxNames {
		one.Mods[0].Imps = append(one.Mods[0].Imps, impl.Imp{Spec: "y", From: "*", Local: fmt.Sprint("n", len(one.Mods[0].Imps))})
	}
	if got := wantTrimmedGraph(t, one, 5); len(got.Mods[0].Imps) != 0 || !slices.Equal(got.Mods[0].Requests, []string{"x", "y"}) {
		t.Errorf("TrimAll is %+v", got)
	}
	one.Mods[0].Imps = append(one.Mods[0].Imps, one.Mods[0].Imps[0])
	wantNoGraph(t, "one Imp too many", one)
}
