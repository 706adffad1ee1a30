package tests

import (
	"fmt"
	"slices"
	"strings"
	"testing"

	"loop.example/g00777/impl"
)

// cycleGraph is of n modules, with a Link for each two digits: from the first one to the second one.
func cycleGraph(n int, links string) impl.Graph {
	all := []impl.Link{}
	for i, pair := range strings.Fields(links) {
		all = append(all, link(int(pair[0]-'0'), fmt.Sprint("x", i), int(pair[1]-'0')))
	}
	return graphOf(n, all...)
}

// digits are module numbers side by side.
func digits(l []int) string {
	text := ""
	for _, m := range l {
		text += fmt.Sprint(m)
	}
	return text
}

func digitLists(lists [][]int) string {
	texts := []string{}
	for _, l := range lists {
		texts = append(texts, digits(l))
	}
	return strings.Join(texts, " ")
}

// ofEach is what is told of each module, in order.
func ofEach(g impl.Graph, tell func(g impl.Graph, m int) []int) string {
	lists := [][]int{}
	for m := range g.Mods {
		lists = append(lists, tell(g, m))
	}
	return digitLists(lists)
}

// cycleCase is a graph, and all that is told of it, in digits.
type cycleCase struct {
	n        int
	links    string
	reach    string
	askers   string
	together string
	layers   string
	acyclic  bool
}

func wantCycles(t *testing.T, cases ...cycleCase) {
	t.Helper()
	for _, c := range cases {
		wantCyclesOf(t, cycleGraph(c.n, c.links), c)
	}
}

func wantCyclesOf(t *testing.T, g impl.Graph, c cycleCase) {
	t.Helper()
	got := cycleCase{n: c.n, links: c.links}
	got.reach, got.askers = ofEach(g, impl.ReachOf), ofEach(g, impl.Askers)
	got.together, got.layers, got.acyclic = digitLists(impl.Together(g)), digits(impl.Layer(g)), impl.Acyclic(g)
	if got != c {
		t.Errorf("of %v it is %+v, not %+v", g.Links, got, c)
	}
	wantCyclesHeld(t, g)
}

func TestCyclesOfOneModule(t *testing.T) {
	wantCycles(t,
		cycleCase{n: 1, reach: "0", askers: "0", together: "0", layers: "0", acyclic: true},
		cycleCase{n: 1, links: "00", reach: "0", askers: "0", together: "0", layers: "0"},
		cycleCase{n: 1, links: "00 00 00", reach: "0", askers: "0", together: "0", layers: "0"},
	)
}

func TestCyclesOfRows(t *testing.T) {
	wantCycles(t,
		cycleCase{n: 2, links: "01", reach: "01 1", askers: "0 01", together: "0 1", layers: "10", acyclic: true},
		cycleCase{n: 3, links: "01 12", reach: "012 12 2", askers: "0 01 012", together: "0 1 2", layers: "210", acyclic: true},
		// The numbers need not rise along the row, nor the Links stand in its order.
		cycleCase{n: 3, links: "02 21", reach: "012 1 12", askers: "0 012 02", together: "0 1 2", layers: "201", acyclic: true},
		cycleCase{n: 4, links: "12 31 03", reach: "0123 12 2 123", askers: "0 013 0123 03", together: "0 1 2 3", layers: "3102", acyclic: true},
		// Two requests may lead to one module.
		cycleCase{n: 2, links: "01 01", reach: "01 1", askers: "0 01", together: "0 1", layers: "10", acyclic: true},
	)
}

func TestCyclesOfAModuleThatAsksForItself(t *testing.T) {
	wantCycles(t,
		cycleCase{n: 2, links: "01 11", reach: "01 1", askers: "0 01", together: "0 1", layers: "10"},
		cycleCase{n: 2, links: "00 01", reach: "01 1", askers: "0 01", together: "0 1", layers: "10"},
		cycleCase{n: 3, links: "00 01 11 12 22", reach: "012 12 2", askers: "0 01 012", together: "0 1 2", layers: "210"},
		cycleCase{n: 3, links: "01 12 11", reach: "012 12 2", askers: "0 01 012", together: "0 1 2", layers: "210"},
	)
}

func TestCyclesByTwoWays(t *testing.T) {
	wantCycles(t,
		cycleCase{n: 4, links: "01 02 13 23", reach: "0123 13 23 3", askers: "0 01 02 0123", together: "0 1 2 3", layers: "2110", acyclic: true},
		cycleCase{n: 3, links: "01 02 12", reach: "012 12 2", askers: "0 01 012", together: "0 1 2", layers: "210", acyclic: true},
		cycleCase{n: 3, links: "02 01 12", reach: "012 12 2", askers: "0 01 012", together: "0 1 2", layers: "210", acyclic: true},
		cycleCase{n: 3, links: "01 02", reach: "012 1 2", askers: "0 01 02", together: "0 1 2", layers: "100", acyclic: true},
		cycleCase{n: 3, links: "01 02 21", reach: "012 1 12", askers: "0 012 02", together: "0 1 2", layers: "201", acyclic: true},
	)
}

func TestCyclesOfTwoAndThree(t *testing.T) {
	wantCycles(t,
		cycleCase{n: 2, links: "01 10", reach: "01 01", askers: "01 01", together: "01", layers: "00"},
		cycleCase{n: 2, links: "00 01 10 11", reach: "01 01", askers: "01 01", together: "01", layers: "00"},
		cycleCase{n: 3, links: "01 12 20", reach: "012 012 012", askers: "012 012 012", together: "012", layers: "000"},
		cycleCase{n: 3, links: "02 21 10", reach: "012 012 012", askers: "012 012 012", together: "012", layers: "000"},
		// Two cycles that share a module are one list.
		cycleCase{n: 3, links: "01 10 02 20", reach: "012 012 012", askers: "012 012 012", together: "012", layers: "000"},
		cycleCase{n: 3, links: "01 10 12 21", reach: "012 012 012", askers: "012 012 012", together: "012", layers: "000"},
		// One behind a cycle, and one ahead of it.
		cycleCase{n: 3, links: "01 10 12", reach: "012 012 2", askers: "01 01 012", together: "01 2", layers: "110"},
		cycleCase{n: 3, links: "01 12 21", reach: "012 12 12", askers: "0 012 012", together: "0 12", layers: "100"},
		// A list need not stand side by side.
		cycleCase{n: 3, links: "01 02 20", reach: "012 1 012", askers: "02 012 02", together: "02 1", layers: "101"},
		cycleCase{n: 4, links: "01 12 23 31", reach: "0123 123 123 123", askers: "0 0123 0123 0123", together: "0 123", layers: "1000"},
		cycleCase{n: 5, links: "03 31 10 02 24 42", reach: "01234 01234 24 01234 24", askers: "013 013 01234 013 01234", together: "013 24", layers: "11010"},
	)
}

func TestCyclesOfTwoThatOneLinkJoins(t *testing.T) {
	wantCycles(t,
		cycleCase{n: 4, links: "01 10 12 23 32", reach: "0123 0123 23 23", askers: "01 01 0123 0123", together: "01 23", layers: "1100"},
		cycleCase{n: 4, links: "01 10 02 23 32", reach: "0123 0123 23 23", askers: "01 01 0123 0123", together: "01 23", layers: "1100"},
		cycleCase{n: 4, links: "02 20 23 31 13", reach: "0123 13 0123 13", askers: "02 0123 02 0123", together: "02 13", layers: "1010"},
		cycleCase{n: 6, links: "01 12 20 25 53 34 45", reach: "012345 012345 012345 345 345 345", askers: "012 012 012 012345 012345 012345", together: "012 345", layers: "111000"},
		// With a Link back they are one.
		cycleCase{n: 4, links: "01 10 12 23 32 30", reach: "0123 0123 0123 0123", askers: "0123 0123 0123 0123", together: "0123", layers: "0000"},
		// Two Links that join them are no more than one.
		cycleCase{n: 4, links: "01 10 02 13 23 32", reach: "0123 0123 23 23", askers: "01 01 0123 0123", together: "01 23", layers: "1100"},
		// Three of them, in a row.
		cycleCase{n: 6, links: "54 45 35 23 32 12 01 10", reach: "012345 012345 2345 2345 45 45", askers: "01 01 0123 0123 012345 012345", together: "01 23 45", layers: "221100"},
	)
}

// What goes on inside of a list counts nothing, however long it is.
func TestLayerOfLinksInsideOfAList(t *testing.T) {
	wantCycles(t,
		cycleCase{n: 4, links: "01 12 20 23", reach: "0123 0123 0123 3", askers: "012 012 012 0123", together: "012 3", layers: "1110"},
		cycleCase{n: 4, links: "01 12 20 03", reach: "0123 0123 0123 3", askers: "012 012 012 0123", together: "012 3", layers: "1110"},
		cycleCase{n: 5, links: "01 12 23 30 02 13 34 24", reach: "01234 01234 01234 01234 4", askers: "0123 0123 0123 0123 01234", together: "0123 4", layers: "11110"},
		cycleCase{n: 5, links: "00 01 11 12 22 21 23 33 34 44", reach: "01234 1234 1234 34 4", askers: "0 012 012 0123 01234", together: "0 12 3 4", layers: "32210"},
		// In at one of a list, out at another one: the way between them is free.
		cycleCase{n: 5, links: "01 12 23 31 34", reach: "01234 1234 1234 1234 4", askers: "0 0123 0123 0123 01234", together: "0 123 4", layers: "21110"},
		cycleCase{n: 8, links: "01 12 23 34 45 56 61 67", reach: "01234567 1234567 1234567 1234567 1234567 1234567 1234567 7", askers: "0 0123456 0123456 0123456 0123456 0123456 0123456 01234567", together: "0 123456 7", layers: "21111110"},
		// Two ways out of a list, of which another one than the first has the longer one.
		cycleCase{n: 6, links: "01 10 02 13 34 45", reach: "012345 012345 2 345 45 5", askers: "01 01 012 013 0134 01345", together: "01 2 3 4 5", layers: "330210"},
		cycleCase{n: 6, links: "45 34 13 02 10 01", reach: "012345 012345 2 345 45 5", askers: "01 01 012 013 0134 01345", together: "01 2 3 4 5", layers: "330210"},
	)
}

// permutations are all orders of a list.
func permutations[T any](l []T) [][]T {
	if len(l) == 0 {
		return [][]T{nil}
	}
	all := [][]T{}
	for i, first := range l {
		for _, rest := range permutations(slices.Delete(slices.Clone(l), i, i+1)) {
			all = append(all, append([]T{first}, rest...))
		}
	}
	return all
}

// Links stand in any order, and so may what a module asks for.
func TestLayerOfTheLongestWay(t *testing.T) {
	for _, c := range []cycleCase{
		{n: 5, links: "01 12 23 34 04", reach: "01234 1234 234 34 4", askers: "0 01 012 0123 01234", together: "0 1 2 3 4", layers: "43210", acyclic: true},
		{n: 4, links: "01 02 03 12 13 23", reach: "0123 123 23 3", askers: "0 01 012 0123", together: "0 1 2 3", layers: "3210", acyclic: true},
		{n: 5, links: "01 02 23 34 14", reach: "01234 14 234 34 4", askers: "0 01 02 023 01234", together: "0 1 2 3 4", layers: "31210", acyclic: true},
		{n: 5, links: "04 43 32 21 01", reach: "01234 1 12 123 1234", askers: "0 01234 0234 034 04", together: "0 1 2 3 4", layers: "40123", acyclic: true},
		{n: 5, links: "01 12 21 23 34 04", reach: "01234 1234 1234 34 4", askers: "0 012 012 0123 01234", together: "0 12 3 4", layers: "32210"},
		{n: 5, links: "01 12 23 31 24 04", reach: "01234 1234 1234 1234 4", askers: "0 0123 0123 0123 01234", together: "0 123 4", layers: "21110"},
	} {
		for _, links := range permutations(strings.Fields(c.links)) {
			c.links = strings.Join(links, " ")
			wantCycles(t, c)
		}
	}
}

// rowLinks are those of n modules in a row, each leading to the next one.
func rowLinks(n int) string {
	text := ""
	for m := range n - 1 {
		text += fmt.Sprintf("%d%d ", m, m+1)
	}
	return text
}

func TestCyclesOfAsManyModulesAsThereMayBe(t *testing.T) {
	const all = "01234567"
	row := rowLinks(impl.MaxFiles)
	wantCycles(t,
		cycleCase{n: 8, links: row, reach: "01234567 1234567 234567 34567 4567 567 67 7", askers: "0 01 012 0123 01234 012345 0123456 01234567", together: "0 1 2 3 4 5 6 7", layers: "76543210", acyclic: true},
		cycleCase{n: 8, links: row + "70", reach: strings.Repeat(all+" ", 7) + all, askers: strings.Repeat(all+" ", 7) + all, together: all, layers: "00000000"},
		cycleCase{n: 8, links: row + "77", reach: "01234567 1234567 234567 34567 4567 567 67 7", askers: "0 01 012 0123 01234 012345 0123456 01234567", together: "0 1 2 3 4 5 6 7", layers: "76543210"},
		cycleCase{n: 8, links: "01 02 03 04 05 06 07", reach: "01234567 1 2 3 4 5 6 7", askers: "0 01 02 03 04 05 06 07", together: "0 1 2 3 4 5 6 7", layers: "10000000", acyclic: true},
		cycleCase{n: 8, links: "07 76 65 54 43 32 21", reach: "01234567 1 12 123 1234 12345 123456 1234567", askers: "0 01234567 0234567 034567 04567 0567 067 07", together: "0 1 2 3 4 5 6 7", layers: "70123456", acyclic: true},
		cycleCase{n: 8, links: row + "10 32 54 76", reach: "01234567 01234567 234567 234567 4567 4567 67 67", askers: "01 01 0123 0123 012345 012345 01234567 01234567", together: "01 23 45 67", layers: "33221100"},
	)
	everyone := ""
	for from := range impl.MaxFiles {
		for to := range impl.MaxFiles {
			everyone += fmt.Sprintf("%d%d ", from, to)
		}
	}
	wantCycles(t, cycleCase{n: 8, links: everyone, reach: strings.Repeat(all+" ", 7) + all, askers: strings.Repeat(all+" ", 7) + all, together: all, layers: "00000000"})
}

// As many requests as a module may have, of each module.
func TestCyclesOfAsManyLinksAsThereMayBe(t *testing.T) {
	links := []impl.Link{}
	for from := range impl.MaxFiles {
		for i := range impl.MaxNames {
			// Only the last one leads on; the others lead to the last module, or inside of it.
			to := impl.MaxFiles - 1
			if i == impl.MaxNames-1 {
				to = min(from+1, to)
			}
			links = append(links, link(from, fmt.Sprint("x", i), to))
		}
	}
	g := graphOf(impl.MaxFiles, links...)
	c := cycleCase{n: 8, reach: "01234567 1234567 234567 34567 4567 567 67 7", askers: "0 01 012 0123 01234 012345 0123456 01234567", together: "0 1 2 3 4 5 6 7", layers: "76543210"}
	wantCyclesOf(t, g, c)
	slices.Reverse(g.Links)
	wantCyclesOf(t, g, c)
}

func TestCyclesOfFiles(t *testing.T) {
	g := mustLoad(t, filesOf(
		"/a", `import { v } from "./b"; export * from "./d"; print(v);`,
		"/b", `import * as c from "./c"; export let v = 1; print(c.w);`,
		"/c", `export { v as w } from "./b"; import e from "e";`,
		"/d", `import "../lib/e"; export let q = 2;`,
		"/lib/e", `export default 3;`), "/a")
	// Loaded in the order a, b, c, e, d.
	wantCyclesOf(t, g, cycleCase{n: 5, reach: "01234 123 123 3 34", askers: "0 012 012 01234 04", together: "0 12 3 4", layers: "21101"})
	// Names that are nowhere change nothing: it is right, though it does not link.
	g = linked(t, `import { none } from "./b"; import { many } from "./c";`, `import { none } from "./a";`, ``)
	if f := impl.LinkFault(g); f == (impl.Fault{}) {
		t.Fatal("it links")
	}
	wantCyclesOf(t, g, cycleCase{n: 3, reach: "012 012 2", askers: "01 01 012", together: "01 2", layers: "110"})
}

// Where a Link leads counts, not the Path that its Spec would name.
func TestCyclesFollowLinks(t *testing.T) {
	g := linked(t, `import "./b";`, `import "./c";`, ``)
	wantCyclesOf(t, g, cycleCase{n: 3, reach: "012 12 2", askers: "0 01 012", together: "0 1 2", layers: "210", acyclic: true})
	at := slices.IndexFunc(g.Links, func(l impl.Link) bool { return l.Spec == "./b" })
	g.Mods[1].Requests = append(g.Mods[1].Requests, "./b")
	g.Links = append(g.Links, link(1, "./b", 2))
	wantCyclesOf(t, g, cycleCase{n: 3, reach: "012 12 2", askers: "0 01 012", together: "0 1 2", layers: "210", acyclic: true})
	g.Links[len(g.Links)-1].To = 0
	wantCyclesOf(t, g, cycleCase{n: 3, reach: "012 012 2", askers: "01 01 012", together: "01 2", layers: "110"})
	g.Links[len(g.Links)-1].To = 1
	wantCyclesOf(t, g, cycleCase{n: 3, reach: "012 12 2", askers: "0 01 012", together: "0 1 2", layers: "210"})
	// The path / is one that a graph may have.
	g.Paths[0], g.Links[len(g.Links)-1].To, g.Links[at].To = "/", 0, 1
	wantCyclesOf(t, g, cycleCase{n: 3, reach: "012 012 2", askers: "01 01 012", together: "01 2", layers: "110"})
}

func TestCyclesOfNoModule(t *testing.T) {
	for _, c := range []cycleCase{{n: 1}, {n: 1, links: "00"}, {n: 2, links: "01 10"}, {n: 3, links: "01 12"}, {n: 5, links: "01 12 23 34 41"}, {n: 8, links: rowLinks(8)}, {n: 8, links: rowLinks(8) + "70"}} {
		g := cycleGraph(c.n, c.links)
		wantRight(t, c.links, g)
		for _, m := range noModules(c.n) {
			if l := impl.ReachOf(g, m); len(l) != 0 {
				t.Errorf("ReachOf %d of %v is %v", m, g.Links, l)
			}
			if l := impl.Askers(g, m); len(l) != 0 {
				t.Errorf("Askers %d of %v is %v", m, g.Links, l)
			}
		}
	}
}

// wantNoCycles asks for what is told of a graph that is not right.
func wantNoCycles(t *testing.T, what string, g impl.Graph) {
	t.Helper()
	if impl.GraphOk(g) {
		t.Fatalf("%s: it is right", what)
	}
	for _, m := range append(noModules(len(g.Mods)), 0, 1, 2, 3, 7) {
		if l := impl.ReachOf(g, m); len(l) != 0 {
			t.Errorf("%s: ReachOf %d is %v", what, m, l)
		}
		if l := impl.Askers(g, m); len(l) != 0 {
			t.Errorf("%s: Askers %d is %v", what, m, l)
		}
	}
	if l := impl.Together(g); len(l) != 0 {
		t.Errorf("%s: Together is %v", what, l)
	}
	if l := impl.Layer(g); len(l) != 0 {
		t.Errorf("%s: Layer is %v", what, l)
	}
	if impl.Acyclic(g) {
		t.Errorf("%s: it is Acyclic", what)
	}
}

func TestCyclesOfGraphsThatAreNotRight(t *testing.T) {
	make := func() impl.Graph {
		return cloneGraph(linked(t, `import { x } from "./b"; import "./c"; print(x); throw 1;`, `export let x = 1; import "./c"; print(2);`, `print(3); export default 4;`))
	}
	wantCyclesOf(t, make(), cycleCase{n: 3, reach: "012 12 2", askers: "0 01 012", together: "0 1 2", layers: "210", acyclic: true})
	for what, change := range map[string]func(g *impl.Graph){
		"a link lacks":            func(g *impl.Graph) { g.Links = g.Links[1:] },
		"the last link lacks":     func(g *impl.Graph) { g.Links = g.Links[:len(g.Links)-1] },
		"a link twice":            func(g *impl.Graph) { g.Links = append(g.Links, g.Links[0]) },
		"a link of no request":    func(g *impl.Graph) { g.Links = append(g.Links, link(2, "./a", 0)) },
		"a link of another spec":  func(g *impl.Graph) { g.Links[0].Spec = "./q" },
		"a link to no module":     func(g *impl.Graph) { g.Links[0].To = 3 },
		"a link to below":         func(g *impl.Graph) { g.Links[1].To = -1 },
		"a link from no module":   func(g *impl.Graph) { g.Links[0].From = 3 },
		"a link from below":       func(g *impl.Graph) { g.Links[2].From = -1 },
		"no links":                func(g *impl.Graph) { g.Links = nil },
		"a path lacks":            func(g *impl.Graph) { g.Paths = g.Paths[:2] },
		"no paths":                func(g *impl.Graph) { g.Paths = nil },
		"a path more":             func(g *impl.Graph) { g.Paths = append(g.Paths, "/d") },
		"a path twice":            func(g *impl.Graph) { g.Paths[2] = "/a" },
		"a path that is none":     func(g *impl.Graph) { g.Paths[1] = "/b/" },
		"a module not come to":    func(g *impl.Graph) { g.Mods, g.Paths = append(g.Mods, impl.Mod{}), append(g.Paths, "/d") },
		"a module lacks":          func(g *impl.Graph) { g.Mods = g.Mods[:2] },
		"no modules":              func(g *impl.Graph) { g.Mods = nil },
		"a module that is none":   func(g *impl.Graph) { g.Mods[2].Exprs = nil },
		"a request twice":         func(g *impl.Graph) { g.Mods[0].Requests = append(g.Mods[0].Requests, "./c") },
		"a request without link":  func(g *impl.Graph) { g.Mods[2].Requests = append(g.Mods[2].Requests, "./a") },
		"a statement of a script": func(g *impl.Graph) { g.Mods[0].Stmts[1].Kind = impl.StFail },
		"an early error":          func(g *impl.Graph) { g.Mods[1].Exps[0].Local = "q" },
		"a default of nothing":    func(g *impl.Graph) { g.Mods[2].Stmts, g.Mods[2].Exprs = nil, nil },
	} {
		g := make()
		change(&g)
		wantNoCycles(t, what, g)
	}
}

func TestCyclesOfGraphsThatAreOdd(t *testing.T) {
	for _, g := range []impl.Graph{{}, {Mods: []impl.Mod{{}}}, {Paths: []string{"/a"}}, {Links: []impl.Link{{}}}, {Paths: []string{}, Mods: []impl.Mod{}, Links: []impl.Link{}}, {Paths: []string{""}, Mods: []impl.Mod{{}}}} {
		wantNoCycles(t, "a graph of nothing", g)
	}
	alone := cycleCase{n: 1, reach: "0", askers: "0", together: "0", layers: "0", acyclic: true}
	wantCyclesOf(t, impl.Graph{Paths: []string{"/"}, Mods: []impl.Mod{{}}}, alone)
	wantCyclesOf(t, impl.Graph{Paths: []string{"/a"}, Mods: []impl.Mod{{Requests: []string{}}}, Links: []impl.Link{}}, alone)
	alone.acyclic = false
	wantCyclesOf(t, impl.Graph{Paths: []string{"/a"}, Mods: []impl.Mod{{Requests: []string{""}}}, Links: []impl.Link{{}}}, alone)
	// Modules that the first one does not come to, though they come to it.
	for _, c := range []cycleCase{{n: 2}, {n: 2, links: "10"}, {n: 2, links: "00 11"}, {n: 3, links: "12 21"}, {n: 3, links: "01 10 20"}, {n: 4, links: "01 10 23 32"}} {
		wantNoCycles(t, "not come to: "+c.links, cycleGraph(c.n, c.links))
	}
	// One module more than there may be.
	nine := impl.Graph{}
	for i := range impl.MaxFiles + 1 {
		nine.Paths, nine.Mods = append(nine.Paths, fmt.Sprint("/m", i)), append(nine.Mods, impl.Mod{})
		if i > 0 {
			nine.Mods[i-1].Requests, nine.Links = []string{"x"}, append(nine.Links, link(i-1, "x", i))
		}
	}
	wantNoCycles(t, "nine modules", nine)
	big := cycleGraph(1, "00")
	big.Links = slices.Repeat(big.Links, 1<<16)
	wantNoCycles(t, "many links", big)
	for code, text := range earlyTexts()[1:] {
		g := scriptGraph(mustParse(t, text, false))
		for _, spec := range g.Mods[0].Requests {
			g.Links = append(g.Links, link(0, spec, 0))
		}
		wantNoCycles(t, fmt.Sprint("the early error ", code+1), g)
	}
}
