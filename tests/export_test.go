package tests

import (
	"fmt"
	"math"
	"math/rand"
	"slices"
	"strings"
	"testing"

	"loop.example/g00777/impl"
)

// linked is the right graph of texts at /a, /b and so on, numbered so, whoever asks for whom first.
func linked(t *testing.T, texts ...string) impl.Graph {
	t.Helper()
	g := impl.Graph{}
	for i, text := range texts {
		g.Paths, g.Mods = append(g.Paths, "/"+string(rune('a'+i))), append(g.Mods, mustParse(t, text, false))
	}
	for from, m := range g.Mods {
		for _, spec := range m.Requests {
			g.Links = append(g.Links, link(from, spec, slices.Index(g.Paths, impl.Resolve(g.Paths[from], spec))))
		}
	}
	if !impl.GraphOk(g) {
		t.Fatalf("that is no right graph: %q", texts)
	}
	return g
}

// leadsTo is the module that a request of a right graph leads to.
func leadsTo(g impl.Graph, from int, spec string) int {
	i := slices.IndexFunc(g.Links, func(l impl.Link) bool { return l.From == from && l.Spec == spec })
	return g.Links[i].To
}

// plainExported has all modules tell their stars what they export, again and again, until none has anything new.
func plainExported(g impl.Graph, m int) []string {
	sets := make([]map[string]bool, len(g.Mods))
	for i, mod := range g.Mods {
		sets[i] = map[string]bool{}
		for _, name := range exportedBy(mod) {
			sets[i][name] = true
		}
	}
	for more := true; more; {
		more = false
		for i, mod := range g.Mods {
			for _, exp := range mod.Exps {
				if exp.Kind != impl.EpStar {
					continue
				}
				for name := range sets[leadsTo(g, i, exp.Spec)] {
					if name != "default" && !sets[i][name] {
						sets[i][name], more = true, true
					}
				}
			}
		}
	}
	names := []string{}
	for name := range sets[m] {
		names = append(names, name)
	}
	slices.Sort(names)
	return names
}

func wantExported(t *testing.T, g impl.Graph, m int, want ...string) {
	t.Helper()
	got := impl.Exported(g, m)
	if !slices.Equal(got, want) {
		t.Errorf("Exported of %d of %s is %q, not %q", m, textOf(g), got, want)
	}
	if plain := plainExported(g, m); !slices.Equal(plain, want) {
		t.Errorf("the plain exports of %d of %s are %q, not %q", m, textOf(g), plain, want)
	}
}

// textOf is a graph as a test tells it.
func textOf(g impl.Graph) string {
	text := ""
	for i, m := range g.Mods {
		text += fmt.Sprintf("%d %s: %s; ", i, g.Paths[i], strings.ReplaceAll(impl.Print(m, false), "\n", " "))
	}
	return fmt.Sprintf("%.600s", text+fmt.Sprint(g.Links))
}

func TestExportedOfWhatAModuleDeclares(t *testing.T) {
	for _, c := range []struct {
		text string
		want string
	}{
		{``, ``}, {`let a = 1; function b() { return 1; } print(a); c = 1;`, ``}, {`export let a = 1;`, `a`}, {`export function a() { return 1; }`, `a`},
		{`export default 1;`, `default`}, {`let a = 1; export { a };`, `a`}, {`let a = 1; export { a as b };`, `b`}, {`let a = 1; export { a as default };`, `default`},
		{`let a = 1; export { a, a as b, a as c };`, `a b c`}, {`export { a as b, b as a }; let a = 1; let b = 2;`, `a b`},
		{`export let b = 1; export let a = 2; export default 3; export function e() { return 4; } let q = 5; export { q as c };`, `a b c default e`},
		// They rise by their bytes, a beginning is less, however they stand in the text.
		{`export let aa = 1; export let a = 1; export let _ = 1; export let a_ = 1; export let a1 = 1; export let aB = 1; export let B = 1; export let ab = 1;`, `B _ a a1 aB a_ aa ab`},
		{`export let defaulu = 1; export default 2; export let defaul = 3; export let e = 4;`, `defaul default defaulu e`},
		{`export let from = 1; export let as = 2;`, `as from`},
	} {
		wantExported(t, linked(t, c.text), 0, strings.Fields(c.want)...)
	}
}

func TestExportedOfWhatOtherModulesDeclare(t *testing.T) {
	b := `export let x = 1; export let y = 2; export default 3;`
	for _, c := range []struct {
		text string
		want string
	}{
		{`export { x } from "./b";`, `x`}, {`export { x as z } from "./b";`, `z`}, {`export { default } from "./b";`, `default`}, {`export { default as z } from "./b";`, `z`},
		{`export { x as default } from "./b";`, `default`}, {`export { y, x, x as w } from "./b";`, `w x y`},
		{`import { x } from "./b"; export { x };`, `x`}, {`import { x as q } from "./b"; export { q as z };`, `z`}, {`import q from "./b"; export { q };`, `q`}, {`import q from "./b"; export { q as default };`, `default`},
		{`import { x, y } from "./b"; import * as n from "./b"; import "./b";`, ``}, {`import { x, y } from "./b"; export { y };`, `y`},
		// What is not there is exported as well: that it does not link is told elsewhere.
		{`export { none } from "./b";`, `none`}, {`import { none } from "./b"; export { none as q };`, `q`},
		{`export * from "./b";`, `x y`}, {`export * from "./b"; export { default } from "./b";`, `default x y`}, {`export * from "./b"; export default 1;`, `default x y`},
		{`export * from "./b"; export let x = 1;`, `x y`}, {`export let z = 1; export * from "./b"; export let a = 1;`, `a x y z`},
		{`export { y as x } from "./b"; export * from "./b";`, `x y`}, {`export * from "./b"; export * from "./b"; export * from "/b"; export * from ".//b";`, `x y`},
	} {
		g := linked(t, c.text, b)
		wantExported(t, g, 0, strings.Fields(c.want)...)
		wantExported(t, g, 1, "default", "x", "y")
	}
}

func TestExportedBehindStars(t *testing.T) {
	star := func(spec string) string { return `export * from "` + spec + `";` }
	own := func(name string) string { return `export let ` + name + ` = 1; export default 2;` }
	g := linked(t, star("./b")+`export let a = 1;`, star("./c")+own("b"), star("./d")+own("c"), own("d"))
	wantExported(t, g, 0, "a", "b", "c", "d")
	wantExported(t, g, 1, "b", "c", "d", "default")
	wantExported(t, g, 2, "c", "d", "default")
	wantExported(t, g, 3, "d", "default")
	// One name by two ways, of one binding or of two, is one name.
	for _, d := range []string{own("x"), ``} {
		g = linked(t, star("./b")+star("./d"), star("./c")+own("x"), own("x")+star("./d"), d)
		wantExported(t, g, 0, "x")
		wantExported(t, g, 1, "default", "x")
	}
	// A star passes on what the module there has from elsewhere, but not what it imports alone.
	g = linked(t, star("./b"), `import { y, z } from "./c"; import * as n from "./c"; export { y }; export { x as w, none } from "./c";`, own("x")+`export let y = 1; export let z = 2;`)
	wantExported(t, g, 0, "none", "w", "y")
	// A module that is asked for alone adds nothing.
	g = linked(t, `import "./b";`+star("./c"), own("b"), own("c"))
	wantExported(t, g, 0, "c")
}

func TestExportedOfStarsThatGoRound(t *testing.T) {
	self := linked(t, `export * from "./a"; export let x = 1; export * from "/a"; export default 2;`)
	wantExported(t, self, 0, "default", "x")
	wantExported(t, linked(t, `export * from "./a";`), 0)
	two := linked(t, `export * from "./b"; export let x = 1; export default 2;`, `export let y = 1; export * from "./a";`)
	wantExported(t, two, 0, "default", "x", "y")
	wantExported(t, two, 1, "x", "y")
	three := linked(t, `export * from "./b"; export let x = 1;`, `export * from "./c"; export let y = 1; export default 2;`, `export * from "./a"; export let z = 1;`)
	wantExported(t, three, 0, "x", "y", "z")
	wantExported(t, three, 1, "default", "x", "y", "z")
	wantExported(t, three, 2, "x", "y", "z")
	all := `export * from "./a"; export * from "./b"; export * from "./c";`
	three = linked(t, all+`export let x = 1;`, `export let x = 2;`+all, all+`export default 3; export { x as w } from "./a";`)
	wantExported(t, three, 0, "w", "x")
	wantExported(t, three, 1, "w", "x")
	wantExported(t, three, 2, "default", "w", "x")
	// One that goes round behind a star that does not.
	behind := linked(t, `export * from "./b"; export let w = 1;`, `export * from "./c"; export let x = 1;`, `export * from "./b"; export let y = 1; export * from "./d";`, `export let z = 1; export * from "./d"; export * from "./c";`)
	wantExported(t, behind, 0, "w", "x", "y", "z")
	for m := 1; m < 4; m++ {
		wantExported(t, behind, m, "x", "y", "z")
	}
	// Round by requests alone is not round by stars.
	apart := linked(t, `export * from "./b"; export let x = 1;`, `import "./a"; import * as n from "./a"; export { x as q } from "./a";`)
	wantExported(t, apart, 0, "q", "x")
	wantExported(t, apart, 1, "q")
}

func TestExportedOfAllStarsOfThree(t *testing.T) {
	choices := choicesOf([]string{"./a", "./b", "./c"})
	texts := make([][]string, 3)
	for i, name := range []string{"x", "y", "z"} {
		for _, choice := range choices {
			text := `export default 1; export let ` + name + ` = 1;`
			for _, spec := range choice {
				text += `export * from "` + spec + `";`
			}
			texts[i] = append(texts[i], text)
		}
	}
	for _, a := range texts[0] {
		for _, b := range texts[1] {
			for _, c := range texts[2] {
				g := mustLoad(t, filesOf("/a", a, "/b", b, "/c", c), "/a")
				for m := range g.Mods {
					if got, want := impl.Exported(g, m), plainExported(g, m); !slices.Equal(got, want) {
						t.Fatalf("Exported of %d of %s is %q, not %q", m, textOf(g), got, want)
					}
				}
			}
		}
	}
}

// fullStars are as many modules as may be, each with as many stars as there is room for, round and round; each declares what names say.
func fullStars(t *testing.T, names ...string) impl.Graph {
	t.Helper()
	texts := []string{}
	for i := range impl.MaxFiles {
		text := ""
		if i < len(names) && names[i] != "" {
			text = `export let ` + names[i] + `=1;`
		}
		for j := len(exportedBy(mustParse(t, text, false))); j < impl.MaxNames; j++ {
			text += `export*from"/` + string(rune('a'+(i+j+1)%impl.MaxFiles)) + `";`
		}
		texts = append(texts, text)
	}
	return linked(t, texts...)
}

func TestExportedEndsSoon(t *testing.T) {
	g := fullStars(t, "x", "y", "x", "", "z")
	for m := range g.Mods {
		wantExported(t, g, m, "x", "y", "z")
	}
}

func TestExportedOfManyNames(t *testing.T) {
	// As many names as the exports have room for, in each of the modules, one behind the other by stars.
	texts, want := []string{}, []string{}
	for i := range impl.MaxFiles {
		text, room := `let q=1;export{`, impl.MaxNames
		if i < impl.MaxFiles-1 {
			text, room = `export*from"/`+string(rune('b'+i))+`";`+text, room-1
		}
		for j := range room {
			name := fmt.Sprintf("%c%02d", 'a'+i, room-j)
			text += "q as " + name + ","
			want = append(want, name)
		}
		texts = append(texts, strings.TrimSuffix(text, ",")+"};")
	}
	slices.Sort(want)
	g := linked(t, texts...)
	wantExported(t, g, 0, want...)
	if len(want) != impl.MaxFiles*impl.MaxNames-impl.MaxFiles+1 {
		t.Errorf("there are %d names", len(want))
	}
	for _, name := range want {
		wantBind(t, g, 0, name, found(int(name[0]-'a'), "q"))
	}
	if f := impl.LinkFault(g); f != (impl.Fault{}) {
		t.Errorf("LinkFault tells %v", f)
	}
}

// noModules are numbers of no module of a graph of n.
func noModules(n int) []int {
	return []int{-1, -2, -n, n, n + 1, impl.MaxFiles, impl.MaxFiles + 1, math.MinInt, math.MaxInt, 1 << 32, -1 << 32, 1<<32 + 1}
}

// wantNothing asks for the fixed answers of what is not right, whatever is asked.
func wantNothing(t *testing.T, what string, g impl.Graph, modules ...int) {
	t.Helper()
	for _, m := range modules {
		if names := impl.Exported(g, m); len(names) != 0 {
			t.Errorf("%s: Exported of %d tells %q", what, m, names)
		}
		for _, name := range []string{"x", "y", "default", "*default", "", "*"} {
			if bind := impl.ResolveExport(g, m, name); bind != (impl.Bind{}) {
				t.Errorf("%s: ResolveExport of %q of %d tells %v", what, name, m, bind)
			}
		}
	}
}

func TestExportsOfNoModule(t *testing.T) {
	for _, g := range []impl.Graph{
		linked(t, `export let x = 1; export default 2;`),
		linked(t, `export * from "./b"; export default 2;`, `export let x = 1; export let y = 2; export * from "./a";`),
		linked(t, `import "./b"; import "./c";`, `export let x = 1;`, `export let y = 1; export default 2;`),
	} {
		wantNothing(t, "no module", g, noModules(len(g.Mods))...)
	}
	full := fullStars(t, "x", "y")
	wantNothing(t, "no module", full, noModules(len(full.Mods))...)
}

func TestExportsOfGraphsThatAreNotRight(t *testing.T) {
	make := func() impl.Graph {
		return linked(t, `import { x } from "./b"; export { x as y }; export default 1; export * from "./c"; export { none } from "./c";`, `export let x = 1; import "./c";`, `export let z = 1; import { none } from "./b";`)
	}
	g := make()
	wantExported(t, g, 0, "default", "none", "y", "z")
	if f := impl.LinkFault(g); f != (impl.Fault{Kind: impl.FaLink, Path: "/c", At: 100}) {
		t.Errorf("LinkFault tells %v", f)
	}
	for what, change := range map[string]func(g *impl.Graph){
		"a link lacks":           func(g *impl.Graph) { g.Links = g.Links[1:] },
		"the last link lacks":    func(g *impl.Graph) { g.Links = g.Links[:len(g.Links)-1] },
		"a link twice":           func(g *impl.Graph) { g.Links = append(g.Links, g.Links[0]) },
		"a link to no module":    func(g *impl.Graph) { g.Links[0].To = 3 },
		"a link below":           func(g *impl.Graph) { g.Links[1].To = -1 },
		"no links":               func(g *impl.Graph) { g.Links = nil },
		"a path lacks":           func(g *impl.Graph) { g.Paths = g.Paths[:2] },
		"no paths":               func(g *impl.Graph) { g.Paths = nil },
		"a path twice":           func(g *impl.Graph) { g.Paths[2] = "/a" },
		"a path that is none":    func(g *impl.Graph) { g.Paths[1] = "/b/" },
		"a module more":          func(g *impl.Graph) { g.Mods, g.Paths = append(g.Mods, impl.Mod{}), append(g.Paths, "/d") },
		"a module that is none":  func(g *impl.Graph) { g.Mods[2].Exprs = nil },
		"an export of no kind":   func(g *impl.Graph) { g.Mods[0].Exps[0].Kind = 0 },
		"an export of no module": func(g *impl.Graph) { g.Mods[0].Exps[1].Spec = "./q" },
		"an import of no module": func(g *impl.Graph) { g.Mods[0].Imps[0].Spec = "./q" },
		"an early error":         func(g *impl.Graph) { g.Mods[0].Exps[0].Local = "q" },
		"an export twice":        func(g *impl.Graph) { g.Mods[1].Exps = append(g.Mods[1].Exps, g.Mods[1].Exps[0]) },
		"a default of nothing":   func(g *impl.Graph) { g.Mods[0].Stmts, g.Mods[0].Exprs = nil, nil },
	} {
		g := cloneGraph(make())
		change(&g)
		if impl.GraphOk(g) {
			t.Fatalf("%s: it is right", what)
		}
		wantNothing(t, what, g, append(noModules(len(g.Mods)), 0, 1, 2)...)
		if f := impl.LinkFault(g); f != (impl.Fault{}) {
			t.Errorf("%s: LinkFault tells %v", what, f)
		}
	}
	for _, g := range []impl.Graph{{}, {Mods: []impl.Mod{{}}}, {Paths: []string{"/a"}}, {Links: []impl.Link{{}}}, {Paths: []string{}, Mods: []impl.Mod{}, Links: []impl.Link{}}} {
		wantNothing(t, "a graph of nothing", g, append(noModules(0), 0, 1)...)
		if f := impl.LinkFault(g); f != (impl.Fault{}) {
			t.Errorf("LinkFault of a graph of nothing tells %v", f)
		}
	}
}

func TestExportsFollowLinks(t *testing.T) {
	// Where a Link leads counts, not the Path that its Spec would name, nor the order of the Links.
	g := linked(t, `export * from "./b"; export { x as w } from "./c"; import { x as q } from "./b"; export { q };`, `export let x = 1; export let y = 2;`, `export let x = 3; export let z = 4;`)
	wantExported(t, g, 0, "q", "w", "x", "y")
	wantBind(t, g, 0, "x", found(1, "x"))
	wantBind(t, g, 0, "w", found(2, "x"))
	wantBind(t, g, 0, "q", found(1, "x"))
	g.Links[0].To, g.Links[1].To = 2, 1
	wantExported(t, g, 0, "q", "w", "x", "z")
	wantBind(t, g, 0, "x", found(2, "x"))
	wantBind(t, g, 0, "w", found(1, "x"))
	wantBind(t, g, 0, "q", found(2, "x"))
	slices.Reverse(g.Links)
	wantExported(t, g, 0, "q", "w", "x", "z")
	wantBind(t, g, 0, "x", found(2, "x"))
	// One spec may lead elsewhere from another module.
	g = linked(t, `export * from "./b"; export { x as w } from "./c";`, `export * from "./c"; export let z = 1;`, `export let x = 1;`)
	g.Links[2].To = 0
	wantExported(t, g, 0, "w", "z")
	wantExported(t, g, 1, "w", "z")
	wantBind(t, g, 1, "w", found(2, "x"))
	wantBind(t, g, 1, "x", none)
}

// exportText is a module that exports few names in all ways, each at most once, from modules at paths.
func exportText(r *rand.Rand, path string, paths []string) string {
	names := []string{"x", "y", "z", "x", "y", "default"}
	text, taken, locals := "", map[string]bool{}, 0
	for range 1 + r.Intn(7) {
		name, from := names[r.Intn(len(names))], names[r.Intn(len(names))]
		spec := `"` + specTo(r, path, paths[r.Intn(len(paths))]) + `";`
		locals++
		local := fmt.Sprint("l", locals)
		way := r.Intn(18)
		if way < 9 && taken[name] {
			continue
		}
		taken[name] = taken[name] || way < 9
		switch {
		case way < 4 && name == "default":
			text += `export default 1;`
		case way < 4:
			text += `export let ` + name + ` = 1;`
		case way < 5:
			text += `let ` + local + ` = 1; export { ` + local + ` as ` + name + ` };`
		case way < 6:
			text += `function ` + local + `() { return 1; } export { ` + local + ` as ` + name + ` };`
		case way < 8:
			text += `export { ` + from + ` as ` + name + ` } from ` + spec
		case way < 9:
			text += `import { ` + from + ` as ` + local + ` } from ` + spec + `export { ` + local + ` as ` + name + ` };`
		case way < 10:
			text += `import { ` + from + ` as ` + local + ` } from ` + spec
		case way < 11:
			text += `import * as ` + local + ` from ` + spec
		default:
			text += `export * from ` + spec
		}
	}
	return text
}

// exportFiles are n files that export names of each other; none of them has a fault of its own.
func exportFiles(r *rand.Rand, n int) []impl.File {
	paths := []string{"/a", "/b", "/d/a", "/d/e/a", "/lib/a", "/lib/b", "/lib/d/a", "/z"}
	r.Shuffle(len(paths), func(i, j int) { paths[i], paths[j] = paths[j], paths[i] })
	paths = paths[:n]
	files := []string{}
	for _, path := range paths {
		files = append(files, path, exportText(r, path, paths))
	}
	return filesOf(files...)
}
