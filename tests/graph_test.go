package tests

import (
	"fmt"
	"math"
	"math/rand"
	"slices"
	"strings"
	"testing"

	"loop.example/g00777/impl"
)

func cloneGraph(g impl.Graph) impl.Graph {
	c := impl.Graph{Paths: slices.Clone(g.Paths), Mods: slices.Clone(g.Mods), Links: slices.Clone(g.Links)}
	for i, m := range c.Mods {
		c.Mods[i] = cloneMod(m)
	}
	return c
}

// comesTo tells of each module whether it is come to from another one by Links, one at least.
func comesTo(g impl.Graph) [][]bool {
	comes := make([][]bool, len(g.Mods))
	for i := range comes {
		comes[i] = make([]bool, len(g.Mods))
	}
	for _, link := range g.Links {
		comes[link.From][link.To] = true
	}
	for k := range comes {
		for i := range comes {
			for j := range comes {
				comes[i][j] = comes[i][j] || comes[i][k] && comes[k][j]
			}
		}
	}
	return comes
}

// plainGraphOk asks for each Link what it is of, where GraphOk asks for each request what it has.
func plainGraphOk(g impl.Graph) bool {
	n := len(g.Mods)
	if n == 0 || n > 8 || len(g.Paths) != n {
		return false
	}
	paths := map[string]bool{}
	for _, path := range g.Paths {
		if path == "" || impl.Clean(path) != path || paths[path] {
			return false
		}
		paths[path] = true
	}
	type request struct {
		from int
		spec string
	}
	open := map[request]bool{}
	for i, m := range g.Mods {
		if !impl.ModOk(m, false) || impl.Early(m, false) != impl.EaOk {
			return false
		}
		for _, spec := range m.Requests {
			open[request{i, spec}] = true
		}
	}
	for _, link := range g.Links {
		if !open[request{link.From, link.Spec}] || link.To < 0 || link.To >= n {
			return false
		}
		delete(open, request{link.From, link.Spec})
	}
	if len(open) > 0 {
		return false
	}
	for i, comes := range comesTo(g)[0] {
		if i > 0 && !comes {
			return false
		}
	}
	return true
}

// plainOrder is Order with a list of what is still to be done; a module below 0 is one that ends.
func plainOrder(g impl.Graph) []int {
	order, begun, jobs := []int{}, map[int]bool{}, []int{0}
	for len(jobs) > 0 {
		m := jobs[len(jobs)-1]
		jobs = jobs[:len(jobs)-1]
		if m < 0 {
			order = append(order, -1-m)
			continue
		}
		if begun[m] {
			continue
		}
		begun[m] = true
		jobs = append(jobs, -1-m)
		for i := len(g.Mods[m].Requests) - 1; i >= 0; i-- {
			for _, link := range g.Links {
				if link.From == m && link.Spec == g.Mods[m].Requests[i] {
					jobs = append(jobs, link.To)
				}
			}
		}
	}
	return order
}

func wantOrder(t *testing.T, g impl.Graph, want ...int) {
	t.Helper()
	if got := impl.Order(g); !slices.Equal(got, want) {
		t.Errorf("Order of %v is %v, not %v", g.Links, got, want)
	}
}

// wantOrdered asks that each module of a right graph is in its order once, behind what it asks for, unless that comes to it.
func wantOrdered(t *testing.T, g impl.Graph) {
	t.Helper()
	order := impl.Order(g)
	if plain := plainOrder(g); !slices.Equal(order, plain) {
		t.Fatalf("Order of %v is %v, not %v", g.Links, order, plain)
	}
	if len(order) != len(g.Mods) || order[len(order)-1] != 0 {
		t.Fatalf("Order of %v is %v: the first one is not the last, or they are not %d", g.Links, order, len(g.Mods))
	}
	comes := comesTo(g)
	for m := range g.Mods {
		if !slices.Contains(order, m) {
			t.Fatalf("Order of %v is %v, without %d", g.Links, order, m)
		}
	}
	for _, link := range g.Links {
		if !comes[link.To][link.From] && slices.Index(order, link.To) > slices.Index(order, link.From) {
			t.Fatalf("Order of %v is %v: %d stands ahead of %d", g.Links, order, link.From, link.To)
		}
	}
}

func wantRight(t *testing.T, what string, g impl.Graph) {
	t.Helper()
	if !impl.GraphOk(g) || !plainGraphOk(g) {
		t.Errorf("%s: a graph is not right that should be: %.400s", what, fmt.Sprintf("%+v", g))
		return
	}
	wantOrdered(t, g)
}

func wantWrong(t *testing.T, what string, g impl.Graph) {
	t.Helper()
	if impl.GraphOk(g) || plainGraphOk(g) {
		t.Errorf("%s: a graph is right that should not be: %.400s", what, fmt.Sprintf("%+v", g))
	}
	if order := impl.Order(g); len(order) != 0 {
		t.Errorf("%s: Order tells %v of a graph that is not right", what, order)
	}
}

// mustLoad is for graphs that other tests hold against their files.
func mustLoad(t *testing.T, files []impl.File, entry string) impl.Graph {
	t.Helper()
	g, f := impl.Load(files, entry)
	if f != (impl.Fault{}) {
		t.Fatalf("Load(%v, %q) tells %v", files, entry, f)
	}
	return g
}

// okGraph is /a, which asks for /b and /c; /b, which asks for /a, /c and itself; and /c, which asks for nothing.
func okGraph(t *testing.T) impl.Graph {
	t.Helper()
	g := mustLoad(t, filesOf("/a", asking("./b", "./c")+`print(1);`, "/b", asking("./a", "./c", "./b")+`let a = 1;`, "/c", `export default 2;`), "/a")
	wantRight(t, "as it is", g)
	return g
}

func TestGraphOkOfOneThingBroken(t *testing.T) {
	breaks := map[string]func(g *impl.Graph){
		"no module":                    func(g *impl.Graph) { g.Mods, g.Paths, g.Links = nil, nil, nil },
		"no module, but paths":         func(g *impl.Graph) { g.Mods = nil },
		"no module, but links":         func(g *impl.Graph) { g.Mods, g.Paths = nil, nil },
		"one module fewer":             func(g *impl.Graph) { g.Mods = g.Mods[:2] },
		"one module more":              func(g *impl.Graph) { g.Mods = append(g.Mods, impl.Mod{}) },
		"one path fewer":               func(g *impl.Graph) { g.Paths = g.Paths[:2] },
		"no paths":                     func(g *impl.Graph) { g.Paths = nil },
		"one path more":                func(g *impl.Graph) { g.Paths = append(g.Paths, "/d") },
		"a module that is not come to": func(g *impl.Graph) { g.Mods, g.Paths = append(g.Mods, impl.Mod{}), append(g.Paths, "/d") },
		"the first path twice":         func(g *impl.Graph) { g.Paths[2] = g.Paths[0] },
		"the last path twice":          func(g *impl.Graph) { g.Paths[1] = g.Paths[2] },
		"a module that is no program":  func(g *impl.Graph) { g.Mods[2].Exprs = nil },
		"another name of a statement":  func(g *impl.Graph) { g.Mods[1].Stmts[0].Name = "let" },
		"an export that lacks":         func(g *impl.Graph) { g.Mods[2].Exps = nil },
		"no links":                     func(g *impl.Graph) { g.Links = nil },
		"a link to no module":          func(g *impl.Graph) { g.Links[0].To = 3 },
	}
	for what, change := range breaks {
		g := okGraph(t)
		change(&g)
		wantWrong(t, what, g)
	}
}

func TestGraphOkOfPaths(t *testing.T) {
	bad := slices.Concat(noPaths(), []string{"/a/", "//a", "/a//b", "/./a", "/a/.", "/a/..", "/..", "/.", "//", "/x/../a"})
	good := []string{"/", "/x", "/x/y", "/a/b", "/...", "/lib", longPath(impl.MaxPath), "/a.js", "/-_"}
	for i := range 3 {
		for _, path := range bad {
			g := okGraph(t)
			g.Paths[i] = path
			wantWrong(t, "the path "+path, g)
		}
		// Where a request would lead from there is not asked, and / is Clean of itself.
		for _, path := range good {
			g := okGraph(t)
			g.Paths[i] = path
			wantRight(t, "the path "+path, g)
		}
		for j := range 3 {
			if i == j {
				continue
			}
			g := okGraph(t)
			g.Paths[i] = g.Paths[j]
			wantWrong(t, "a path twice", g)
		}
	}
}

func TestGraphOkOfModules(t *testing.T) {
	script := mustParse(t, `let a$ = 1; print(a$);`, true)
	fails := mustParse(t, `fail 1;`, true)
	for i := range 3 {
		for what, change := range map[string]func(m *impl.Mod){
			"a request twice":          func(m *impl.Mod) { m.Requests = append(m.Requests, "./b", "./b") },
			"a request that is none":   func(m *impl.Mod) { m.Requests = append(m.Requests, "\"") },
			"an import of no request":  func(m *impl.Mod) { m.Imps = append(m.Imps, impl.Imp{Spec: "./q", From: "a", Local: "b"}) },
			"a statement of no kind":   func(m *impl.Mod) { m.Stmts[0].Kind = 0 },
			"a statement without one":  func(m *impl.Mod) { m.Stmts[0].Expr = 7 },
			"an expression of no one":  func(m *impl.Mod) { m.Exprs = append(m.Exprs, impl.Expr{Kind: impl.ExNum}) },
			"a number that is none":    func(m *impl.Mod) { m.Exprs[0].Num = -1 },
			"a statement of a script":  func(m *impl.Mod) { m.Stmts, m.Exprs, m.Exps = fails.Stmts, fails.Exprs, nil },
			"names of a script":        func(m *impl.Mod) { m.Stmts, m.Exprs, m.Exps = script.Stmts, script.Exprs, nil },
			"an export without a kind": func(m *impl.Mod) { m.Exps = append([]impl.Exp{{Name: "a", Local: "a"}}, m.Exps...) },
		} {
			g := okGraph(t)
			change(&g.Mods[i])
			wantWrong(t, what, g)
		}
	}
}

func TestGraphOkOfEarlyErrors(t *testing.T) {
	for code, text := range earlyTexts()[1:] {
		alone := impl.Graph{Paths: []string{"/a"}, Mods: []impl.Mod{mustParse(t, text, false)}}
		for _, spec := range alone.Mods[0].Requests {
			alone.Links = append(alone.Links, link(0, spec, 0))
		}
		wantWrong(t, fmt.Sprint("alone, the code ", code+1), alone)
		for i := range 3 {
			g := okGraph(t)
			extra := mustParse(t, strings.ReplaceAll(text, "./a", "./c"), false)
			requests := g.Mods[i].Requests
			g.Mods[i] = extra
			g.Mods[i].Requests = requests
			if len(extra.Imps) > 0 && i == 2 {
				g.Mods[i].Requests = []string{"./c"}
				g.Links = append(g.Links, link(2, "./c", 2))
			}
			if !impl.ModOk(g.Mods[i], false) || impl.Early(g.Mods[i], false) != code+1 {
				t.Fatalf("%s has not the code %d alone", dump(g.Mods[i]), code+1)
			}
			wantWrong(t, fmt.Sprint("the code ", code+1), g)
		}
	}
}

func TestGraphOkOfCounts(t *testing.T) {
	paths, specs := manyPaths()
	paths, specs = append(paths, "/m8", "/m9"), append(specs, "./m8", "./m9")
	for n := range len(paths) + 1 {
		star, chain := impl.Graph{}, impl.Graph{}
		for i := range n {
			star.Paths, star.Mods = append(star.Paths, paths[i]), append(star.Mods, impl.Mod{})
			chain.Paths, chain.Mods = append(chain.Paths, paths[i]), append(chain.Mods, impl.Mod{})
			if i > 0 {
				star.Mods[0].Requests, star.Links = append(star.Mods[0].Requests, specs[i]), append(star.Links, link(0, specs[i], i))
				chain.Mods[i-1].Requests, chain.Links = []string{specs[i]}, append(chain.Links, link(i-1, specs[i], i))
			}
		}
		for _, g := range []impl.Graph{star, chain} {
			if n >= 1 && n <= impl.MaxFiles {
				wantRight(t, fmt.Sprint(n, " modules"), g)
			} else {
				wantWrong(t, fmt.Sprint(n, " modules"), g)
			}
		}
	}
}

func TestGraphOkOfLinksThatLackOrAreTooMany(t *testing.T) {
	g := okGraph(t)
	for i, old := range g.Links {
		lacks := cloneGraph(g)
		lacks.Links = slices.Delete(lacks.Links, i, i+1)
		wantWrong(t, "a link lacks", lacks)
		twice := cloneGraph(g)
		twice.Links = append(twice.Links, old)
		wantWrong(t, "a link twice", twice)
		twice.Links = slices.Insert(cloneGraph(g).Links, i, link(old.From, old.Spec, (old.To+1)%3))
		wantWrong(t, "two links of one request", twice)
		for j := range g.Links {
			if j != i {
				instead := cloneGraph(g)
				instead.Links[j] = old
				wantWrong(t, "one link twice in the place of another", instead)
			}
		}
	}
	for from := range 3 {
		for _, spec := range []string{"./q", "", "./a ", "/a", "/b", "a", "./B", "../b", "./b/"} {
			g := okGraph(t)
			g.Links = append(g.Links, link(from, spec, 0))
			wantWrong(t, "a link of no request", g)
		}
	}
	// A request of one module is not one of another.
	g.Links = append(g.Links, link(2, "./a", 0))
	wantWrong(t, "a link of the request of another", g)
	g.Links = append(okGraph(t).Links, link(0, "./a", 0))
	wantWrong(t, "a link of the request of another", g)
}

func TestGraphOkOfLinksFromAndToNoModule(t *testing.T) {
	out := []int{-1, -2, -3, 3, 4, 8, math.MinInt, math.MaxInt, 1 << 32, 1<<32 + 1, -1 << 32}
	for i := range okGraph(t).Links {
		for _, n := range out {
			g := okGraph(t)
			g.Links[i].From = n
			wantWrong(t, fmt.Sprint("a link from ", n), g)
			g = okGraph(t)
			g.Links[i].To = n
			wantWrong(t, fmt.Sprint("a link to ", n), g)
			g = okGraph(t)
			g.Links = append(g.Links, link(n, g.Links[i].Spec, 0))
			wantWrong(t, fmt.Sprint("one more link from ", n), g)
		}
		for n := range 3 {
			g := okGraph(t)
			if g.Links[i].From != n {
				g.Links[i].From = n
				wantWrong(t, "a link from another module", g)
			}
		}
		g := okGraph(t)
		g.Links[i].Spec += "/"
		wantWrong(t, "a link of another spec", g)
	}
}

func TestGraphOkOfWhereLinksLead(t *testing.T) {
	// Any module may be led to, as long as each is come to.
	right := 0
	for b := range 3 {
		for c := range 3 {
			for self := range 3 {
				g := okGraph(t)
				for i, l := range g.Links {
					switch {
					case l == link(0, "./b", 1):
						g.Links[i].To = b
					case l == link(0, "./c", 2):
						g.Links[i].To = c
					case l == link(1, "./b", 1):
						g.Links[i].To = self
					}
				}
				if b == 1 || c == 1 {
					// Module 1 leads to all others.
					wantRight(t, fmt.Sprint("links to ", b, c, self), g)
					right++
				} else {
					wantWrong(t, fmt.Sprint("links to ", b, c, self), g)
				}
			}
		}
	}
	if right != 15 {
		t.Errorf("%d are right", right)
	}
}

func TestGraphOkOfModulesThatAreNotComeTo(t *testing.T) {
	one := impl.Graph{Paths: []string{"/a", "/b", "/c"}, Mods: []impl.Mod{{}, {}, {}}}
	wantWrong(t, "modules that ask for nothing", one)
	// Those that come to the first one, to themselves or to each other are not come to from it.
	for _, links := range [][]impl.Link{
		{link(1, "x", 0), link(2, "x", 0)}, {link(1, "x", 1), link(2, "x", 2)}, {link(1, "x", 2), link(2, "x", 1)}, {link(0, "x", 0), link(1, "x", 2), link(2, "x", 0)},
		{link(0, "x", 1)}, {link(0, "x", 2)}, {link(0, "x", 1), link(2, "x", 1)}, {link(0, "x", 0), link(0, "y", 1), link(2, "x", 0), link(2, "y", 2)}, {link(1, "x", 2)},
	} {
		wantWrong(t, fmt.Sprint(links), graphOf(3, links...))
	}
	for _, links := range [][]impl.Link{
		{link(0, "x", 1), link(0, "y", 2)}, {link(0, "x", 2), link(2, "x", 1)}, {link(0, "x", 1), link(1, "x", 2)}, {link(1, "x", 2), link(0, "x", 1), link(2, "x", 0)},
	} {
		wantRight(t, fmt.Sprint(links), graphOf(3, links...))
	}
}

// graphOf is of n modules that ask for what the links say, in their order.
func graphOf(n int, links ...impl.Link) impl.Graph {
	paths, _ := manyPaths()
	g := impl.Graph{Paths: paths[:n], Mods: make([]impl.Mod, n), Links: links}
	for _, link := range links {
		g.Mods[link.From].Requests = append(g.Mods[link.From].Requests, link.Spec)
	}
	return g
}

func TestOrderOfGraphs(t *testing.T) {
	wantOrder(t, graphOf(1), 0)
	wantOrder(t, graphOf(1, link(0, "x", 0), link(0, "y", 0)), 0)
	wantOrder(t, graphOf(2, link(0, "x", 1)), 1, 0)
	wantOrder(t, graphOf(2, link(0, "x", 1), link(1, "x", 0)), 1, 0)
	wantOrder(t, graphOf(2, link(0, "x", 0), link(0, "y", 1), link(1, "x", 1), link(1, "y", 0)), 1, 0)
	wantOrder(t, graphOf(3, link(0, "x", 1), link(0, "y", 2)), 1, 2, 0)
	wantOrder(t, graphOf(3, link(0, "x", 2), link(0, "y", 1)), 2, 1, 0)
	wantOrder(t, graphOf(3, link(0, "x", 1), link(0, "y", 2), link(1, "x", 2)), 2, 1, 0)
	wantOrder(t, graphOf(3, link(0, "x", 1), link(0, "y", 2), link(2, "x", 1)), 1, 2, 0)
	// One that is begun, and not ended, is passed over: who asks for it in turn runs ahead of it.
	wantOrder(t, graphOf(3, link(0, "x", 1), link(1, "x", 2), link(2, "x", 1), link(2, "y", 0)), 2, 1, 0)
	wantOrder(t, graphOf(4, link(0, "x", 1), link(0, "y", 3), link(1, "x", 2), link(2, "x", 1), link(3, "x", 2)), 2, 1, 3, 0)
	wantOrder(t, graphOf(4, link(0, "x", 2), link(2, "x", 0), link(2, "y", 3), link(3, "x", 1), link(1, "x", 2)), 1, 3, 2, 0)
}

func TestOrderGoesByRequests(t *testing.T) {
	g := graphOf(4, link(0, "x", 1), link(0, "y", 2), link(0, "z", 3))
	for _, order := range [][]int{{0, 1, 2}, {0, 2, 1}, {1, 0, 2}, {1, 2, 0}, {2, 0, 1}, {2, 1, 0}} {
		moved := cloneGraph(g)
		for i, from := range order {
			moved.Links[i] = g.Links[from]
		}
		// Links may stand in any order.
		wantOrder(t, moved, 1, 2, 3, 0)
		moved = cloneGraph(g)
		want := []int{}
		for i, from := range order {
			moved.Mods[0].Requests[i] = g.Mods[0].Requests[from]
			want = append(want, from+1)
		}
		wantOrder(t, moved, append(want, 0)...)
	}
	// It goes by the requests also where the items that ask stand otherwise.
	text := `import { a } from "./b"; export * from "./c"; import "./d"; import { e } from "./b";`
	loaded := mustLoad(t, filesOf("/a", text, "/b", ``, "/c", ``, "/d", asking("./c")), "/a")
	wantOrder(t, loaded, 1, 2, 3, 0)
	slices.Reverse(loaded.Links)
	wantOrder(t, loaded, 1, 2, 3, 0)
	slices.Reverse(loaded.Mods[0].Requests)
	wantOrder(t, loaded, 2, 3, 1, 0)
}

func TestGraphsThatAreOdd(t *testing.T) {
	wantWrong(t, "the zero graph", impl.Graph{})
	wantWrong(t, "empty lists", impl.Graph{Paths: []string{}, Mods: []impl.Mod{}, Links: []impl.Link{}})
	wantWrong(t, "a path alone", impl.Graph{Paths: []string{"/a"}})
	wantWrong(t, "a module alone", impl.Graph{Mods: []impl.Mod{{}}})
	wantWrong(t, "a link alone", impl.Graph{Links: []impl.Link{{}}})
	wantWrong(t, "a link of nothing", impl.Graph{Paths: []string{"/a"}, Mods: []impl.Mod{{}}, Links: []impl.Link{{}}})
	wantRight(t, "a module of nothing", impl.Graph{Paths: []string{"/a"}, Mods: []impl.Mod{{}}})
	wantRight(t, "a module of nothing", impl.Graph{Paths: []string{"/"}, Mods: []impl.Mod{{Requests: []string{}}}, Links: []impl.Link{}})
	wantRight(t, "a request without a byte", impl.Graph{Paths: []string{"/a"}, Mods: []impl.Mod{{Requests: []string{""}}}, Links: []impl.Link{{}}})
	big := graphOf(1, link(0, "x", 0))
	big.Links = slices.Repeat(big.Links, 1<<20)
	wantWrong(t, "a million links", big)
	big = impl.Graph{Paths: make([]string, 1<<16), Mods: make([]impl.Mod, 1<<16)}
	for i := range big.Paths {
		big.Paths[i] = "/" + fmt.Sprint(i)
	}
	wantWrong(t, "many modules", big)
	big = impl.Graph{Paths: []string{"/a"}, Mods: []impl.Mod{{Requests: slices.Repeat([]string{"x"}, 1<<16)}}, Links: slices.Repeat([]impl.Link{link(0, "x", 0)}, 1<<16)}
	wantWrong(t, "many requests", big)
}

// meddleGraph changes one thing, or a few.
func meddleGraph(k *maker, g *impl.Graph) {
	pick := func(n int) int { return k.Intn(max(n, 1)) }
	switch i := k.Intn(12); {
	case i == 0 && len(g.Paths) > 0:
		g.Paths[pick(len(g.Paths))] = k.one("/", "/a", "/b", "/a/", "", "/x", "//", "/lib/a", "b")
	case i == 1:
		g.Paths = append(g.Paths, k.one("/q", "/a", ""))
	case i == 2:
		g.Mods, g.Paths = append(g.Mods, impl.Mod{}), append(g.Paths, "/q")
	case i == 3 && len(g.Links) > 0:
		g.Links[pick(len(g.Links))].To = k.Intn(len(g.Mods)+2) - 1
	case i == 4 && len(g.Links) > 0:
		g.Links[pick(len(g.Links))].From = k.Intn(len(g.Mods)+2) - 1
	case i == 5 && len(g.Links) > 1:
		g.Links[pick(len(g.Links))] = g.Links[pick(len(g.Links))]
	case i == 6 && len(g.Links) > 0:
		at := pick(len(g.Links))
		g.Links = slices.Delete(g.Links, at, at+1)
	case i == 7:
		g.Links = append(g.Links, link(pick(len(g.Mods)), k.one("/a", "/b", "b", "./a"), pick(len(g.Mods))))
	case i == 8:
		// What asks for something more, and has it.
		from := pick(len(g.Mods))
		g.Mods[from].Requests = append(g.Mods[from].Requests, "new")
		g.Links = append(g.Links, link(from, "new", pick(len(g.Mods))))
	case i == 9:
		k.Shuffle(len(g.Links), func(i, j int) { g.Links[i], g.Links[j] = g.Links[j], g.Links[i] })
	case i == 10:
		requests := g.Mods[pick(len(g.Mods))].Requests
		k.Shuffle(len(requests), func(i, j int) { requests[i], requests[j] = requests[j], requests[i] })
	default:
		k.meddle(&g.Mods[pick(len(g.Mods))])
	}
}

func TestGraphOkOfManyGraphs(t *testing.T) {
	k, r := newMaker(false), rand.New(rand.NewSource(9))
	right, wrong := 0, 0
	for range 20000 {
		files := someFiles(r, false)
		g := cloneGraph(mustLoad(t, files, files[r.Intn(len(files))].Path))
		for range 1 + k.Intn(3) {
			meddleGraph(k, &g)
		}
		got, want := impl.GraphOk(g), plainGraphOk(g)
		if got != want {
			t.Fatalf("GraphOk(%+v) = %v", g, got)
		}
		if got {
			wantOrdered(t, g)
			right++
		} else {
			if len(impl.Order(g)) != 0 {
				t.Fatalf("Order(%+v) tells something, but it is not right", g)
			}
			wrong++
		}
	}
	if right < 1000 || wrong < 1000 {
		t.Errorf("%d are right, %d are wrong: that tells too little", right, wrong)
	}
}

// graphWithSpare has lists with marked room behind them.
func graphWithSpare(g impl.Graph) impl.Graph {
	spare := impl.Graph{
		Paths: append(slices.Clone(g.Paths), "spare")[:len(g.Paths)],
		Mods:  append(slices.Clone(g.Mods), impl.Mod{Requests: []string{"spare"}})[:len(g.Mods)],
		Links: append(slices.Clone(g.Links), link(1, "spare", 2))[:len(g.Links)],
	}
	for i, m := range g.Mods {
		spare.Mods[i] = withSpare(m)
	}
	return spare
}

// wantGraphSpare asks that nothing was written into what graphWithSpare made of g, nor behind it.
func wantGraphSpare(t *testing.T, spare, g impl.Graph) {
	t.Helper()
	if !isSameGraph(spare, g) || spare.Paths[:len(g.Paths)+1][len(g.Paths)] != "spare" || spare.Links[:len(g.Links)+1][len(g.Links)] != link(1, "spare", 2) || spare.Mods[:len(g.Mods)+1][len(g.Mods)].Requests[0] != "spare" {
		t.Fatalf("an argument is written into: %+v", spare)
	}
	for i, m := range g.Mods {
		wantSpare(t, spare.Mods[i], m)
	}
}

func TestGraphsAreNotWrittenInto(t *testing.T) {
	k, r := newMaker(false), rand.New(rand.NewSource(10))
	for range 1000 {
		files := someFiles(r, false)
		g := cloneGraph(mustLoad(t, files, files[0].Path))
		if k.Intn(2) == 0 {
			meddleGraph(k, &g)
		}
		spare := graphWithSpare(g)
		if impl.GraphOk(spare) != impl.GraphOk(spare) {
			t.Fatalf("GraphOk of %+v is not the same twice", spare)
		}
		first, second := impl.Order(spare), impl.Order(spare)
		if !slices.Equal(first, second) || len(first) > 0 && &first[0] == &second[0] {
			t.Fatalf("Order of %+v is not the same twice, or shares memory", spare)
		}
		wantGraphSpare(t, spare, g)
	}
}
