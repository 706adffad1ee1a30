package tests

import (
	"cmp"
	"fmt"
	"math"
	"math/rand"
	"slices"
	"strings"
	"testing"

	"loop.example/g00777/impl"
)

// wantRunOf holds Run of a right graph, and its bundle, against the plain rules, with each number of steps up to most; it counts the ends.
func wantRunOf(t *testing.T, g impl.Graph, most int, ends map[int]int) {
	t.Helper()
	if impl.LinkFault(g) != (impl.Fault{}) {
		wantNoRun(t, textOf(g), g)
		ends[-1]++
		return
	}
	c := plainCourse(g, false)
	wantEachFuel(t, textOf(g), func(fuel int) impl.Trace { return impl.Run(g, fuel) }, c, most)
	wantBundleCourse(t, g, c, most)
	ends[c.with(impl.MaxFuel).End]++
}

// wantScriptRunOf is the same of a script.
func wantScriptRunOf(t *testing.T, m impl.Mod, most int, ends map[int]int) {
	t.Helper()
	if impl.Early(m, true) != impl.EaOk {
		wantNoScriptRun(t, dump(m), m)
		ends[-1]++
		return
	}
	c := plainCourse(scriptGraph(m), true)
	wantEachFuel(t, dump(m), func(fuel int) impl.Trace { return impl.RunScript(m, fuel) }, c, most)
	ends[c.with(impl.MaxFuel).End]++
}

func wantEnds(t *testing.T, ends map[int]int, least int, wanted ...int) {
	t.Helper()
	for _, end := range wanted {
		if ends[end] < least {
			t.Errorf("the ends are %v: that tells too little", ends)
		}
	}
}

func TestRunOfAllSmallScripts(t *testing.T) {
	statements := []string{
		`let a = 1;`, `let a = f;`, `let a = undef;`, `let b = a;`, `let b = a();`, `let b = a + 1;`, `a = 2;`, `a = f();`, `f = a;`, `f = 1000000 * a;`, `function f() { return 3; }`, `function f() { return a; }`, `function f() { return f() - a; }`, `function a() { return b; }`,
		`print(a);`, `print(a());`, `print(f() * 2);`, `print(b - a);`, `throw f;`, `fail a;`,
	}
	ends := map[int]int{}
	texts := []string{""}
	for range 3 {
		more := []string{}
		for _, text := range texts {
			for _, statement := range statements {
				more = append(more, text+statement)
			}
		}
		texts = more
		for _, text := range texts {
			wantScriptRunOf(t, mustParse(t, text, true), math.MaxInt, ends)
		}
	}
	wantEnds(t, ends, 20, -1, impl.TrDone, impl.TrThrow, impl.TrRef, impl.TrType, impl.TrRange)
}

func TestRunOfAllPairsOfModules(t *testing.T) {
	imports := []string{``, `import { x } from "./O";`, `import { x as y } from "./O";`, `import { f } from "./O";`, `import * as n from "./O";`, `export * from "./O";`, `import { x } from "./S";`}
	own := []string{``, `export let x = 1;`, `export function f() { return x; }`, `export let x = 1; export function f() { return x * 2; } x = 5;`, `export function x() { return f(); } export function f() { return 6; }`}
	uses := []string{`print(x);`, `print(f()); x = 2; print(x);`, `print(0); print(y);`, `print(n.x); print(n.f()); print(n.f);`, `x = f;`}
	texts := []string{}
	for _, i := range imports {
		for _, o := range own {
			for _, u := range uses {
				m := mustParse(t, i+o+u, false)
				if impl.Early(m, false) == impl.EaOk {
					texts = append(texts, i+o+u)
				}
			}
		}
	}
	fill := func(text, own, other string) string {
		return strings.NewReplacer("./S", own, "./O", other).Replace(text)
	}
	ends := map[int]int{}
	for i, a := range texts {
		for j, b := range texts {
			// They are many: a third of them, and all with their own kind.
			if (i+j)%3 == 0 || i == j {
				wantRunOf(t, linked(t, `import "./b";`+fill(a, "./a", "./b"), fill(b, "./b", "./a")), 16, ends)
			}
		}
	}
	wantEnds(t, ends, 20, -1, impl.TrDone, impl.TrRef, impl.TrType)
}

// runMaker writes modules that import, read, write and call each other's names.
type runMaker struct {
	*rand.Rand
	// What each of them declares and exports.
	exports [][]string
	// What the one that is written has: names of numbers and of functions, most of the time, and spaces.
	numbers, functions, spaces []string
}

func (k *runMaker) one(of ...string) string {
	return of[k.Intn(len(of))]
}

func (k *runMaker) seldom() bool {
	return k.Intn(40) == 0
}

// name is one of own, or one of a space; once in a while it is another one.
func (k *runMaker) name(own []string, fields ...string) string {
	switch {
	case k.seldom():
		return k.one(slices.Concat(k.numbers, k.functions, []string{"none", "undef"})...)
	case len(k.spaces) > 0 && (len(own) == 0 || k.Intn(3) == 0):
		return k.one(k.spaces...) + "." + k.one(fields...)
	case len(own) > 0:
		return k.one(own...)
	}
	return ""
}

func (k *runMaker) number() string {
	return k.name(k.numbers, "x", "x", "y", "y", "default", "r1")
}

func (k *runMaker) function() string {
	return k.name(k.functions, "f", "f", "g", "r2", "none")
}

func (k *runMaker) expr(more int) string {
	digits := k.one("0", "1", "2", "3", "7", "1000")
	switch i := k.Intn(20); {
	case more > 0 && i < 8:
		return "(" + k.expr(more-1) + k.one("+", "+", "-", "-", "*") + k.expr(more-1) + ")"
	case i < 13:
		return digits
	case i < 17:
		return cmp.Or(k.number(), digits)
	case i < 18 && k.Intn(4) == 0:
		return cmp.Or(k.function(), digits)
	}
	if f := k.function(); f != "" {
		return f + "()"
	}
	return digits
}

// have adds a name that another module, or this one, knows as from.
func (k *runMaker) have(local, from string) {
	if from == "f" || from == "g" {
		k.functions = append(k.functions, local)
	} else {
		k.numbers = append(k.numbers, local)
	}
}

// head is the imports, and the exports of what other modules have.
func (k *runMaker) head(m, n int) string {
	text := ""
	for i := range k.Intn(5) {
		// Those that come later run first, most of the time, so that what they have is set.
		to := m + k.Intn(n-m)
		if k.Intn(8) == 0 {
			to = k.Intn(n)
		}
		from, local, on := k.one(k.exports[to]...), fmt.Sprint("i", i), fmt.Sprint("r", i)
		if k.Intn(100) == 0 {
			from = "none"
		}
		spec := ` from "/` + string(rune('a'+to)) + `";`
		switch j := k.Intn(9); {
		case j < 4:
			text += `import { ` + from + ` as ` + local + ` }` + spec
			k.have(local, from)
		case j < 6:
			text += `import * as ` + local + spec
			k.spaces = append(k.spaces, local)
		case j < 7:
			text += `export *` + spec
		case j < 8:
			text += `export { ` + from + ` as ` + on + ` }` + spec
		default:
			text += `import { ` + from + ` as ` + local + ` }` + spec + `export { ` + local + ` as ` + on + ` };`
			k.have(local, from)
		}
	}
	return text
}

// declarations are of all that module m exports, and of one name that it does not.
func (k *runMaker) declarations(m int) []string {
	items := []string{`let hidden = ` + k.expr(0) + `;`}
	for _, name := range k.exports[m] {
		switch name {
		case "default":
			items = append(items, `export default `+k.expr(1)+`;`)
		case "f", "g":
			items = append(items, `export function `+name+`() { return `+k.expr(2)+`; }`)
		default:
			items = append(items, `export let `+name+` = `+k.one("1", "2", "3", k.expr(1))+`;`)
		}
	}
	return items
}

// module is the text of module m of n, at /a and so on.
func (k *runMaker) module(m, n int) string {
	k.numbers, k.functions, k.spaces = nil, nil, nil
	head := k.head(m, n)
	own := []string{"hidden"}
	items := k.declarations(m)
	for _, name := range k.exports[m] {
		if name != "default" {
			own = append(own, name)
			k.have(name, name)
		}
	}
	for j := range 1 + k.Intn(6) {
		switch i := k.Intn(24); {
		case i < 14:
			items = append(items, `print(`+k.expr(2)+`);`)
		case i < 20:
			items = append(items, k.one(own...)+` = `+k.expr(1)+`;`)
		case i < 21:
			items = slices.Insert(items, k.Intn(len(items)+1), `print(`+k.one(cmp.Or(k.number(), "1"), cmp.Or(k.function(), "2"))+`);`)
		case i < 22:
			items = append(items, fmt.Sprintf(`let t%d = %s; print(t%d());`, j, cmp.Or(k.function(), "1"), j))
		case i < 23:
			items = append(items, k.one(slices.Concat(k.numbers, k.functions, []string{"none"})...)+` = 1;`)
		default:
			items = append(items, `throw `+k.expr(1)+`;`)
		}
	}
	return head + strings.Join(items, "")
}

func (k *runMaker) files(n int) []impl.File {
	k.exports = nil
	for range n {
		all := []string{"x", "y", "f", "g", "default"}
		k.Shuffle(len(all), func(i, j int) { all[i], all[j] = all[j], all[i] })
		k.exports = append(k.exports, all[:1+k.Intn(len(all))])
	}
	files := []string{}
	for m := range n {
		files = append(files, "/"+string(rune('a'+m)), k.module(m, n))
	}
	return filesOf(files...)
}

func TestRunOfManyGraphs(t *testing.T) {
	k := &runMaker{Rand: rand.New(rand.NewSource(13))}
	ends, long := map[int]int{}, 0
	for i := range 2000 {
		g := mustLoad(t, k.files(1+i%impl.MaxFiles), "/a")
		if i%5 == 0 {
			for j := range g.Links {
				if k.Intn(4) == 0 {
					g.Links[j].To = k.Intn(len(g.Mods))
				}
			}
			if !impl.GraphOk(g) {
				wantNoRun(t, "links elsewhere", g)
				continue
			}
		}
		wantRunOf(t, g, 20, ends)
		if len(impl.Run(g, impl.MaxFuel).Out) > 4 {
			long++
		}
	}
	wantEnds(t, ends, 40, -1, impl.TrDone, impl.TrThrow, impl.TrRef, impl.TrType, impl.TrRange)
	if long < 100 {
		t.Errorf("%d print much: that tells too little", long)
	}
}

func TestRunOfManyScripts(t *testing.T) {
	k := newMaker(true)
	ends := map[int]int{}
	for range 10000 {
		m, _ := k.make()
		wantScriptRunOf(t, m, math.MaxInt, ends)
	}
	wantEnds(t, ends, 50, -1, impl.TrDone, impl.TrThrow, impl.TrRef, impl.TrType)
}

// wantNoRun asks for the fixed answer of what is not right, or does not link, with each number of steps, and that it has no bundle.
func wantNoRun(t *testing.T, what string, g impl.Graph) {
	t.Helper()
	for _, fuel := range append(oddFuels(), 0, 1, 2, 10, 100) {
		if got := impl.Run(g, fuel); !isSameTrace(got, impl.Trace{End: impl.TrRef}) {
			t.Fatalf("%s: with %d steps Run tells %v", what, fuel, got)
		}
	}
	if _, f := wantBundled(t, g); f.Kind != impl.FaLink {
		t.Fatalf("%s: Bundle tells %v", what, f)
	}
}

func wantNoScriptRun(t *testing.T, what string, m impl.Mod) {
	t.Helper()
	for _, fuel := range append(oddFuels(), 0, 1, 2, 10, 100) {
		if got := impl.RunScript(m, fuel); !isSameTrace(got, impl.Trace{End: impl.TrRef}) {
			t.Fatalf("%s: with %d steps RunScript tells %v", what, fuel, got)
		}
	}
}

func TestRunOfGraphsThatAreNotRight(t *testing.T) {
	make := func() impl.Graph {
		return linked(t, `import { x } from "./b"; print(x); throw 1;`, `export let x = 1; import "./c"; print(2);`, `print(3); export default 4;`)
	}
	wantGraphCourse(t, make(), `2:3 8:2 10:1 12:throw:1`)
	for what, change := range map[string]func(g *impl.Graph){
		"a link lacks":             func(g *impl.Graph) { g.Links = g.Links[1:] },
		"a link twice":             func(g *impl.Graph) { g.Links = append(g.Links, g.Links[0]) },
		"a link to no module":      func(g *impl.Graph) { g.Links[0].To = 3 },
		"a link below":             func(g *impl.Graph) { g.Links[1].To = -1 },
		"no links":                 func(g *impl.Graph) { g.Links = nil },
		"a path lacks":             func(g *impl.Graph) { g.Paths = g.Paths[:2] },
		"a path twice":             func(g *impl.Graph) { g.Paths[2] = "/a" },
		"a path that is none":      func(g *impl.Graph) { g.Paths[1] = "/b/" },
		"a module not come to":     func(g *impl.Graph) { g.Mods, g.Paths = append(g.Mods, impl.Mod{}), append(g.Paths, "/d") },
		"a module that is none":    func(g *impl.Graph) { g.Mods[2].Exprs = nil },
		"an export of no kind":     func(g *impl.Graph) { g.Mods[1].Exps[0].Kind = 0 },
		"an early error":           func(g *impl.Graph) { g.Mods[1].Exps[0].Local = "q" },
		"a default of nothing":     func(g *impl.Graph) { g.Mods[2].Stmts, g.Mods[2].Exprs = nil, nil },
		"a statement of no kind":   func(g *impl.Graph) { g.Mods[0].Stmts[0].Kind = 7 },
		"a statement of a script":  func(g *impl.Graph) { g.Mods[0].Stmts[1].Kind = impl.StFail },
		"a name of a script":       func(g *impl.Graph) { g.Mods[0].Exprs[0].Name = "x$" },
		"an expression of no kind": func(g *impl.Graph) { g.Mods[0].Exprs[0].Kind = 9 },
		"a number too great":       func(g *impl.Graph) { g.Mods[0].Exprs[1].Num = impl.MaxNum + 1 },
		"a number below":           func(g *impl.Graph) { g.Mods[0].Exprs[1].Num = -1 },
		"an expression too far":    func(g *impl.Graph) { g.Mods[0].Stmts[0].Expr = 2 },
		"an expression below":      func(g *impl.Graph) { g.Mods[0].Stmts[0].Expr = -1 },
		"an expression twice":      func(g *impl.Graph) { g.Mods[0].Stmts[1].Expr = 0 },
		"a side of itself":         func(g *impl.Graph) { g.Mods[0].Exprs[1] = impl.Expr{Kind: impl.ExAdd, L: 0, R: 1} },
	} {
		g := cloneGraph(make())
		change(&g)
		wantNoRun(t, what, g)
	}
	for _, g := range []impl.Graph{{}, {Mods: []impl.Mod{{}}}, {Paths: []string{"/a"}}, {Links: []impl.Link{{}}}, {Paths: []string{}, Mods: []impl.Mod{}, Links: []impl.Link{}}} {
		wantNoRun(t, "a graph of nothing", g)
	}
	wantGraphCourse(t, impl.Graph{Paths: []string{"/"}, Mods: []impl.Mod{{}}}, `0:done`)
	for code, text := range earlyTexts()[1:] {
		g := scriptGraph(mustParse(t, `print(1);`+text, false))
		for _, spec := range g.Mods[0].Requests {
			g.Links = append(g.Links, link(0, spec, 0))
		}
		wantNoRun(t, fmt.Sprint("the early error ", code+1), g)
	}
}

func TestRunOfGraphsThatDoNotLink(t *testing.T) {
	b := `export * from "./c"; export * from "./d"; print(2); let hidden = 1;`
	c, d := `export let many = 1; export let x = 2;`, `export let many = 3;`
	for _, name := range []string{"none", "many", "hidden", "default"} {
		for _, text := range []string{`import { N as q } from "./b";`, `export { N as q } from "./b";`, `import { N as q } from "./b"; export { q };`, `import { x } from "./b"; import { N as q } from "./b";`} {
			wantNoRun(t, text, linked(t, `print(1);`+named(text, name), b, c, d))
			// Nor does it where another one than the first has it, and would come last.
			wantNoRun(t, text, linked(t, `import "./b"; print(1);`, `print(2);`+named(strings.ReplaceAll(text, "./b", "./c"), name), `export let x = 1;`))
		}
	}
	wantNoRun(t, "a name that goes round", linked(t, `export { x } from "./b"; print(1);`, `export { x } from "./a";`))
	wantGraphCourse(t, linked(t, `import { x } from "./b"; print(1); print(x);`, b, c, d), `8:2 12:1 14:2 14:done`)
}

func TestRunOfScriptsThatAreNotRight(t *testing.T) {
	text := `let a$ = 1; function f() { return a$ + 2; } print(f()); fail undef;`
	wantScriptCourse(t, text, `8:3 10:type`)
	for what, change := range map[string]func(m *impl.Mod){
		"a request": func(m *impl.Mod) { m.Requests = []string{"./a"} },
		"an import": func(m *impl.Mod) {
			m.Requests, m.Imps = []string{"./a"}, []impl.Imp{{Spec: "./a", From: "x", Local: "x"}}
		},
		"an import of no request":    func(m *impl.Mod) { m.Imps = []impl.Imp{{From: "x", Local: "x"}} },
		"an export":                  func(m *impl.Mod) { m.Exps = []impl.Exp{{Kind: impl.EpLocal, Name: "f", Local: "f"}} },
		"a default":                  func(m *impl.Mod) { m.Stmts[0].Name = impl.DefaultName },
		"a statement of no kind":     func(m *impl.Mod) { m.Stmts[0].Kind = 0 },
		"a statement of a kind more": func(m *impl.Mod) { m.Stmts[3].Kind = 7 },
		"a name of a word":           func(m *impl.Mod) { m.Stmts[0].Name = "let" },
		"a name of undef":            func(m *impl.Mod) { m.Stmts[0].Name = "undef" },
		"undef is written":           func(m *impl.Mod) { m.Stmts[0] = impl.Stmt{Kind: impl.StSet, Name: "undef", Expr: m.Stmts[0].Expr} },
		"a name without a byte":      func(m *impl.Mod) { m.Stmts[0].Name = "" },
		"a name with a blank":        func(m *impl.Mod) { m.Exprs[1].Name = "a b" },
		"a print with a name":        func(m *impl.Mod) { m.Stmts[2].Name = "f" },
		"a name with a field":        func(m *impl.Mod) { m.Exprs[1].Field = "f" },
		"a name with a number":       func(m *impl.Mod) { m.Exprs[1].Num = 1 },
		"an expression of no kind":   func(m *impl.Mod) { m.Exprs[0].Kind = 0 },
		"an expression more":         func(m *impl.Mod) { m.Exprs = append(m.Exprs, impl.Expr{Kind: impl.ExNum}) },
		"no expressions":             func(m *impl.Mod) { m.Exprs = nil },
		"no statements":              func(m *impl.Mod) { m.Stmts = nil },
		"sides that go round":        func(m *impl.Mod) { m.Exprs[3].L = 3 },
		"a side too far":             func(m *impl.Mod) { m.Exprs[3].R = math.MaxInt },
		"a side below":               func(m *impl.Mod) { m.Exprs[3].R = math.MinInt },
		"a statement too far":        func(m *impl.Mod) { m.Stmts[3].Expr = 6 },
		"a statement below":          func(m *impl.Mod) { m.Stmts[3].Expr = -1 },
		"a number too great":         func(m *impl.Mod) { m.Exprs[0].Num = impl.MaxNum + 1 },
		"a number below":             func(m *impl.Mod) { m.Exprs[0].Num = -1 },
	} {
		m := cloneMod(mustParse(t, text, true))
		change(&m)
		if impl.ModOk(m, true) {
			t.Fatalf("%s: it is right", what)
		}
		wantNoScriptRun(t, what, m)
	}
	for _, early := range []string{`print(1); let a = 1; let a = 2;`, `let f = 1; function f() { return 1; }`, `function f() { return 1; } print(1); function f() { return 1; }`, `print(1); print(n.a);`, `print(1); print(n.a());`, `let n = 1; print(n.n);`} {
		wantNoScriptRun(t, early, mustParse(t, early, true))
	}
	for _, module := range []string{`import "./a";`, `export let a = 1;`, `export default 1;`, `import * as n from "./a"; print(n.x);`} {
		wantNoScriptRun(t, module, mustParse(t, module, false))
	}
	for _, m := range []impl.Mod{{}, {Requests: []string{}, Imps: []impl.Imp{}, Exps: []impl.Exp{}, Stmts: []impl.Stmt{}, Exprs: []impl.Expr{}}} {
		for _, fuel := range append(oddFuels(), 0, 1) {
			if got := impl.RunScript(m, fuel); !isSameTrace(got, impl.Trace{}) {
				t.Errorf("RunScript of the zero Mod tells %v with %d steps", got, fuel)
			}
		}
	}
}

func TestRunOfMeddledPrograms(t *testing.T) {
	k := newMaker(true)
	right, wrong := 0, 0
	for range 10000 {
		m, _ := k.make()
		k.meddle(&m)
		if impl.ModOk(m, true) && impl.Early(m, true) == impl.EaOk {
			wantScriptRunOf(t, m, 10, map[int]int{})
			right++
		} else {
			wantNoScriptRun(t, dump(m), m)
			wrong++
		}
	}
	if min(right, wrong) < 1000 {
		t.Errorf("%d are right, %d are wrong: that tells too little", right, wrong)
	}
}

func TestRunOfFullModules(t *testing.T) {
	// As many modules as may be, each with as many stars as there is room for, all of whose expressions ask a space for names of their own.
	texts := []string{}
	for i := range impl.MaxFiles {
		text := fmt.Sprintf("import * as n from %q; export let own%d = 1;", "/"+string(rune('a'+(i+1)%impl.MaxFiles)), i)
		for j := range impl.MaxNames - 1 {
			text += fmt.Sprintf("export * from %q;", "/"+string(rune('a'+(i+j+1)%impl.MaxFiles)))
		}
		for j := range impl.MaxStmts - 1 {
			text += fmt.Sprintf("print(n.x%d_%d);", i, j)
		}
		texts = append(texts, text)
	}
	g := linked(t, texts...)
	trace := impl.Run(g, impl.MaxFuel)
	if trace.End != impl.TrDone || len(trace.Out) != impl.MaxFiles*(impl.MaxStmts-1) || slices.ContainsFunc(trace.Out, func(s string) bool { return s != "undefined" }) {
		t.Errorf("Run tells %d, %q and %d lines", trace.End, trace.Text, len(trace.Out))
	}
}

func TestRunOfDeepPrograms(t *testing.T) {
	// A sum as deep as may be, told by as many functions as may be.
	sum := strings.Repeat("1 + ", 130) + "g()"
	text := "function g() { return 1; } function f() { return " + sum + "; } print(f());"
	wantBothCourses(t, text, `266:131 266:done`)
	deep := strings.Repeat("(1 + ", impl.MaxDepth) + "f()" + strings.Repeat(")", impl.MaxDepth)
	wantBothCourses(t, "function f() { return "+deep+"; } print(f());", fmt.Sprintf("%d:range", 3+30*41))
}

func TestRunIsNewMemory(t *testing.T) {
	g := linked(t, `import { x, f } from "./b"; print(x); print(f); print(f()); throw x;`, `export let x = 123456; export function f() { return x - 1; }`)
	m := mustParse(t, `let x = 123456; function f() { return x - 1; } print(x); print(f); print(f()); throw x;`, true)
	want := impl.Trace{Out: []string{"123456", "function", "123455"}, End: impl.TrThrow, Text: "123456"}
	for _, run := range []func() impl.Trace{func() impl.Trace { return impl.Run(g, 100) }, func() impl.Trace { return impl.RunScript(m, 100) }} {
		first, second := run(), run()
		if !isSameTrace(first, want) || !isSameTrace(second, want) || &first.Out[0] == &second.Out[0] {
			t.Fatalf("the traces are %v and %v, or share memory", first, second)
		}
		for _, text := range append(slices.Clone(first.Out), first.Text) {
			wantOwnMemory(t, text, g)
			wantOwnMemory(t, text, scriptGraph(m))
		}
		clear(first.Out[:cap(first.Out)])
		if again := run(); !isSameTrace(again, want) || !isSameTrace(second, want) {
			t.Error("an answer is kept")
		}
	}
}

func TestRunDoesNotWriteIntoPrograms(t *testing.T) {
	k, g := newMaker(false), &runMaker{Rand: rand.New(rand.NewSource(14))}
	for i := range 1000 {
		graph := cloneGraph(mustLoad(t, g.files(1+i%impl.MaxFiles), "/a"))
		if i%3 == 0 {
			meddleGraph(k, &graph)
		}
		spare := graphWithSpare(graph)
		for _, fuel := range []int{-1, 7, impl.MaxFuel} {
			impl.Run(spare, fuel)
		}
		wantGraphSpare(t, spare, graph)
	}
	k = newMaker(true)
	for i := range 1000 {
		m, _ := k.make()
		if i%3 == 0 {
			k.meddle(&m)
		}
		spare := withSpare(m)
		for _, fuel := range []int{-1, 7, impl.MaxFuel} {
			impl.RunScript(spare, fuel)
		}
		wantSpare(t, spare, m)
	}
}
