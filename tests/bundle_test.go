package tests

import (
	"fmt"
	"math"
	"slices"
	"strings"
	"testing"

	"loop.example/g00777/impl"
)

// plainName is what the script has for a name of module m, or for a field of it. Whose it is is asked anew each time.
func plainName(g impl.Graph, m int, name, field string) string {
	bind := (&plainRunner{g: g}).whose(m, name, field)
	place := slices.Index(plainOrder(g), bind.Mod) + 1
	switch {
	case field != "" && bind.Kind != impl.BiFound:
		return "undef"
	case bind.Name == "*default":
		return fmt.Sprintf("default$%d", place)
	case !slices.Contains(declaredIn(g.Mods[m]), name):
		return name + "$"
	}
	return fmt.Sprintf("%s$%d", bind.Name, place)
}

// plainTurned is module m as a part of the script.
func plainTurned(g impl.Graph, m int) impl.Mod {
	turned := impl.Mod{Stmts: slices.Clone(g.Mods[m].Stmts), Exprs: slices.Clone(g.Mods[m].Exprs)}
	for i, s := range turned.Stmts {
		isImport := slices.ContainsFunc(g.Mods[m].Imps, func(imp impl.Imp) bool { return imp.Local == s.Name })
		if isImport {
			turned.Stmts[i] = impl.Stmt{Kind: impl.StFail, Expr: s.Expr}
		} else if s.Name != "" {
			turned.Stmts[i].Name = plainName(g, m, s.Name, "")
		}
	}
	kinds := map[int]int{impl.ExName: impl.ExName, impl.ExMember: impl.ExName, impl.ExCall: impl.ExCall, impl.ExMemCall: impl.ExCall}
	for i, x := range turned.Exprs {
		if kind, named := kinds[x.Kind]; named {
			turned.Exprs[i] = impl.Expr{Kind: kind, Name: plainName(g, m, x.Name, x.Field)}
		}
	}
	return turned
}

// plainBundle is read from the texts of all modules, turned one by one.
func plainBundle(t *testing.T, g impl.Graph) impl.Mod {
	t.Helper()
	text := ""
	for _, m := range plainOrder(g) {
		text += impl.Print(plainTurned(g, m), true)
	}
	return mustParse(t, text, true)
}

func plainBundleFault(g impl.Graph) impl.Fault {
	if !plainGraphOk(g) {
		return impl.Fault{Kind: impl.FaLink, At: -1}
	}
	stmts, exprs := 0, 0
	for _, m := range g.Mods {
		stmts, exprs = stmts+len(m.Stmts), exprs+len(m.Exprs)
	}
	fault := plainLinkFault(g)
	if fault == (impl.Fault{}) && (stmts > 80 || exprs > 300) {
		return impl.Fault{Kind: impl.FaBig, Path: g.Paths[0]}
	}
	return fault
}

// wantBundled asks for the bundle that the plain rules make, or for their fault, and that it is a right script; it tells both.
func wantBundled(t *testing.T, g impl.Graph) (impl.Mod, impl.Fault) {
	t.Helper()
	m, f := impl.Bundle(g)
	if want := plainBundleFault(g); f != want {
		t.Fatalf("Bundle of %s tells %v, not %v", textOf(g), f, want)
	}
	if f != (impl.Fault{}) {
		if !isSameMod(m, impl.Mod{}) {
			t.Fatalf("Bundle of %s tells %v, and %+v", textOf(g), f, m)
		}
		return m, f
	}
	if want := plainBundle(t, g); !isSameMod(m, want) {
		t.Fatalf("Bundle of %s is %+v, not %+v", textOf(g), m, want)
	}
	if len(m.Requests)+len(m.Imps)+len(m.Exps) != 0 {
		t.Fatalf("Bundle of %s asks for something, or exports it: %+v", textOf(g), m)
	}
	if !impl.ModOk(m, true) || impl.Early(m, true) != impl.EaOk {
		t.Fatalf("Bundle of %s is not right, or has the early error %d: %+v", textOf(g), impl.Early(m, true), m)
	}
	if again, bad := impl.Parse(impl.Print(m, true), true); bad != -1 || !isSameMod(again, m) {
		t.Fatalf("Bundle of %s is %+v, and of its text %+v", textOf(g), m, again)
	}
	return m, f
}

// wantBundleCourse asks for a course of the bundle, with each number of steps as wantEachFuel has them.
func wantBundleCourse(t *testing.T, g impl.Graph, c course, most int) impl.Fault {
	t.Helper()
	m, f := wantBundled(t, g)
	if f == (impl.Fault{}) {
		wantEachFuel(t, "the bundle of "+textOf(g), func(fuel int) impl.Trace { return impl.RunScript(m, fuel) }, c, most)
	}
	return f
}

// wantBundle asks for the bundle with that text, and that it does the same.
func wantBundle(t *testing.T, g impl.Graph, want string) {
	t.Helper()
	m, f := wantBundled(t, g)
	if got := impl.Print(m, true); f != (impl.Fault{}) || got != want {
		t.Errorf("Bundle of %s is %q and %v, not %q", textOf(g), got, f, want)
	}
	wantBundleRun(t, g, m, append(firstFuels(150), oddFuels()...)...)
}

// wantBundleRun asks that a graph and its bundle tell the same with each of these numbers of steps.
func wantBundleRun(t *testing.T, g impl.Graph, m impl.Mod, fuels ...int) {
	t.Helper()
	for _, fuel := range fuels {
		if run, script := impl.Run(g, fuel), impl.RunScript(m, fuel); !isSameTrace(run, script) {
			t.Fatalf("with %d steps %s tells %v, and its bundle %v", fuel, textOf(g), run, script)
		}
	}
}

// firstFuels are the numbers from 0 on.
func firstFuels(n int) []int {
	fuels := []int{}
	for fuel := range n {
		fuels = append(fuels, fuel)
	}
	return fuels
}

// wantBundleFault asks for a fault, and the zero Mod.
func wantBundleFault(t *testing.T, g impl.Graph, want impl.Fault) {
	t.Helper()
	if _, f := wantBundled(t, g); f != want {
		t.Errorf("Bundle of %s tells %v, not %v", textOf(g), f, want)
	}
}

func TestBundleOfEachStatement(t *testing.T) {
	for _, c := range []struct{ text, want string }{
		{``, ``}, {`print(1);`, "print(1);\n"}, {`throw 2;`, "throw 2;\n"}, {`let a = 3;`, "let a$1 = 3;\n"}, {`function f() { return 4; }`, "function f$1() { return 4; }\n"}, {`let a = 5; a = 6;`, "let a$1 = 5;\na$1 = 6;\n"}, {`function f() { return 7; } f = 8;`, "function f$1() { return 7; }\nf$1 = 8;\n"},
		{`export let a = 1;`, "let a$1 = 1;\n"}, {`export function f() { return 2; }`, "function f$1() { return 2; }\n"}, {`export default 3;`, "let default$1 = 3;\n"}, {`let a = 4; export { a, a as b };`, "let a$1 = 4;\n"},
		{`import "./a";`, ``}, {`export * from "./a"; import * as n from "./a";`, ``}, {`import { a as b } from "./a"; export let a = 1; b = 2;`, "let a$1 = 1;\nfail 2;\n"},
		// What is read ahead of its place stays ahead of it.
		{`print(a); a = 1; let a = 2; print(f()); function f() { return a; }`, "print(a$1);\na$1 = 1;\nlet a$1 = 2;\nprint(f$1());\nfunction f$1() { return a$1; }\n"},
	} {
		wantBundle(t, linked(t, c.text), c.want)
	}
}

func TestBundleOfEachExpression(t *testing.T) {
	head := `import * as n from "./a"; import { f as g } from "./a"; let a = 1; export function f() { return a; }`
	ahead := "let a$1 = 1;\nfunction f$1() { return a$1; }\n"
	for _, c := range []struct{ text, want string }{
		{`0`, `0`}, {`1000000`, `1000000`}, {`a`, `a$1`}, {`f`, `f$1`}, {`f()`, `f$1()`}, {`a()`, `a$1()`}, {`g`, `f$1`}, {`g()`, `f$1()`}, {`n.f`, `f$1`}, {`n.f()`, `f$1()`}, {`n.none`, `undef`}, {`n.none()`, `undef()`}, {`none`, `none$`}, {`none()`, `none$()`},
		{`a + 1`, `a$1 + 1`}, {`2 - f()`, `2 - f$1()`}, {`n.f() * g()`, `f$1() * f$1()`}, {`1 + 2 * a - 3`, `1 + 2 * a$1 - 3`}, {`(1 + a) * (f() - 4)`, `(1 + a$1) * (f$1() - 4)`}, {`a - (a - a)`, `a$1 - (a$1 - a$1)`}, {`a * (a * a)`, `a$1 * (a$1 * a$1)`},
	} {
		for _, f := range []struct{ form, want string }{{`print(E);`, "print(E);\n"}, {`throw E;`, "throw E;\n"}, {`let x = E;`, "let x$1 = E;\n"}, {`a = E;`, "a$1 = E;\n"}, {`g = E;`, "fail E;\n"}, {`none = E;`, "none$ = E;\n"}, {`export default E;`, "let default$1 = E;\n"}, {`function x() { return E; }`, "function x$1() { return E; }\n"}} {
			wantBundle(t, linked(t, head+strings.ReplaceAll(f.form, "E", c.text)), ahead+strings.ReplaceAll(f.want, "E", c.want))
		}
	}
}

func TestBundleFieldByField(t *testing.T) {
	g := linked(t, `import { x as y } from "./b"; import * as n from "./b"; let a = y - 3; y = a * a; print(n.x + n.f()); q = n.none;`, `export let x = 1 + 2; export function f() { return x; } throw x();`)
	want := impl.Mod{
		Stmts: []impl.Stmt{
			{Kind: impl.StLet, Name: "x$1", Expr: 2}, {Kind: impl.StFn, Name: "f$1", Expr: 3}, {Kind: impl.StThrow, Expr: 4},
			{Kind: impl.StLet, Name: "a$2", Expr: 7}, {Kind: impl.StFail, Expr: 10}, {Kind: impl.StPrint, Expr: 13}, {Kind: impl.StSet, Name: "q$", Expr: 14},
		},
		Exprs: []impl.Expr{
			{Kind: impl.ExNum, Num: 1}, {Kind: impl.ExNum, Num: 2}, {Kind: impl.ExAdd, L: 0, R: 1}, {Kind: impl.ExName, Name: "x$1"}, {Kind: impl.ExCall, Name: "x$1"},
			{Kind: impl.ExName, Name: "x$1"}, {Kind: impl.ExNum, Num: 3}, {Kind: impl.ExSub, L: 5, R: 6}, {Kind: impl.ExName, Name: "a$2"}, {Kind: impl.ExName, Name: "a$2"}, {Kind: impl.ExMul, L: 8, R: 9},
			{Kind: impl.ExName, Name: "x$1"}, {Kind: impl.ExCall, Name: "f$1"}, {Kind: impl.ExAdd, L: 11, R: 12}, {Kind: impl.ExName, Name: "undef"},
		},
	}
	if m, f := wantBundled(t, g); f != (impl.Fault{}) || !isSameMod(m, want) {
		t.Errorf("Bundle is %+v and %v", m, f)
	}
}

func TestBundleOfModulesInOrder(t *testing.T) {
	// The places are those in Order, whatever numbers the modules have.
	for _, c := range []struct {
		asks  []string
		order string
	}{
		{[]string{asking("./b"), ``}, "ba"}, {[]string{asking("./b", "./c", "./d"), ``, ``, ``}, "bcda"}, {[]string{asking("./d", "./c", "./b"), ``, ``, ``}, "dcba"}, {[]string{asking("./b"), asking("./c"), asking("./d"), ``}, "dcba"}, {[]string{asking("./c", "./b"), asking("./d"), asking("./b"), ``}, "dbca"},
		// These ask for each other in turn, or for themselves.
		{[]string{asking("./a")}, "a"}, {[]string{asking("./b"), asking("./a")}, "ba"}, {[]string{asking("./b", "./c"), asking("./c", "./a"), asking("./a", "./b")}, "cba"}, {[]string{asking("./c"), asking("./d", "./a"), asking("./d", "./b"), asking("./c")}, "dbca"},
	} {
		texts, want := []string{}, ""
		for i, asks := range c.asks {
			texts = append(texts, fmt.Sprintf(`%s let x = %d; print(x + %d); function f() { return x; } x = f() * %d;`, asks, i, i, i))
		}
		for i, letter := range c.order {
			m := int(letter - 'a')
			want += strings.NewReplacer("K", fmt.Sprint(i+1), "M", fmt.Sprint(m)).Replace("let x$K = M;\nprint(x$K + M);\nfunction f$K() { return x$K; }\nx$K = f$K() * M;\n")
		}
		g := linked(t, texts...)
		wantBundle(t, g, want)
		slices.Reverse(g.Links)
		wantBundle(t, g, want)
	}
	// A module without statements has its place all the same.
	wantBundle(t, linked(t, `import "./b"; let x = 1;`, `import "./c"; export { y } from "./d";`, ``, `export let y = 2;`), "let y$2 = 2;\nlet x$4 = 1;\n")
	eight := []string{asking("/b", "/c", "/d", "/e", "/f", "/g", "/h") + `let x = 0;`}
	for i := range impl.MaxFiles - 1 {
		eight = append(eight, fmt.Sprintf(`let x = %d;`, i+1))
	}
	wantBundle(t, linked(t, eight...), "let x$1 = 1;\nlet x$2 = 2;\nlet x$3 = 3;\nlet x$4 = 4;\nlet x$5 = 5;\nlet x$6 = 6;\nlet x$7 = 7;\nlet x$8 = 0;\n")
}

func TestBundleOfImports(t *testing.T) {
	for what, w := range waysToX() {
		t.Run(what, func(t *testing.T) {
			exports := `export { x, x as default };`
			behind := "function get$4() { return x$1; }\nprint(get$4());\nprint(x$1);\n"
			wantBundle(t, wayGraph(t, w, exports+`let x = 1;`), "let x$1 = 1;\n"+behind)
			wantBundle(t, wayGraph(t, w, exports+`function x() { return 2; } print(get());`), "function x$1() { return 2; }\nprint(get$4());\n"+behind)
			wantBundle(t, wayGraph(t, w, exports+`print(get()); let x = 1;`), "print(get$4());\nlet x$1 = 1;\n"+behind)
			// That it has a name of its own where it is declared changes nothing.
			wantBundle(t, wayGraph(t, w, `let own = 1; export { own as x, own as default }; own = 2;`), "let own$1 = 1;\nown$1 = 2;\n"+strings.ReplaceAll(behind, "x$1", "own$1"))
			called := w
			called.read += `()`
			wantBundle(t, wayGraph(t, called, exports+`function x() { return 3; } x = 4;`), "function x$1() { return 3; }\nx$1 = 4;\n"+strings.ReplaceAll(behind, "x$1", "x$1()"))
			if !strings.Contains(w.read, ".") {
				written := w
				written.imports += w.read + ` = 5 + ` + w.read + `;`
				wantBundle(t, wayGraph(t, written, exports+`let x = 1;`), "let x$1 = 1;\nfail 5 + x$1;\n"+behind)
			}
		})
	}
}

func TestBundleOfDefaults(t *testing.T) {
	wantBundle(t, linked(t, `export default 1; import me from "./a"; print(me);`), "let default$1 = 1;\nprint(default$1);\n")
	wantBundle(t, linked(t, `import b from "./b"; import c from "./c"; import * as me from "./a"; export default b * c(); print(me.default); print(me.default()); b = 1;`, `export default 3;`, `function f() { return 1; } export default f;`), "let default$1 = 3;\nfunction f$2() { return 1; }\nlet default$2 = f$2;\nlet default$3 = default$1 * default$2();\nprint(default$3);\nprint(default$3());\nfail 1;\n")
	// One that is another name's has that name, and one that is read ahead of its place stays there.
	wantBundle(t, linked(t, `import d from "./b"; print(d);`, `let x = 1; export { x as default };`), "let x$1 = 1;\nprint(x$1);\n")
	wantBundle(t, linked(t, `import d from "./b"; export let x = d;`, `import * as a from "./a"; print(a.x); export default 2;`), "print(x$2);\nlet default$1 = 2;\nlet x$2 = default$1;\n")
	wantBundle(t, linked(t, `let default_ = 1; export default default_; let _default = Default;`), "let default_$1 = 1;\nlet default$1 = default_$1;\nlet _default$1 = Default$;\n")
	// Behind a star there is none.
	wantBundle(t, linked(t, `import * as n from "./b"; print(n.default);`, `export * from "./c";`, `export default 1;`), "let default$1 = 1;\nprint(undef);\n")
}

func TestBundleOfNamesThatAreNotDeclared(t *testing.T) {
	for _, c := range []struct{ text, want string }{
		{`print(q);`, "print(q$);\n"}, {`print(q());`, "print(q$());\n"}, {`q = 1;`, "q$ = 1;\n"}, {`q = q;`, "q$ = q$;\n"}, {`let a = q;`, "let a$1 = q$;\n"}, {`throw 1 + q * q();`, "throw 1 + q$ * q$();\n"}, {`function f() { return q; } print(f()); q = 2;`, "function f$1() { return q$; }\nprint(f$1());\nq$ = 2;\n"},
		{`let q = 1; print(Q); print(q1); print(_q);`, "let q$1 = 1;\nprint(Q$);\nprint(q1$);\nprint(_q$);\n"}, {`let q1 = 1; print(q);`, "let q1$1 = 1;\nprint(q$);\n"},
		// These are words in a script, and names in a module.
		{`print(undef);`, "print(undef$);\n"}, {`print(undef());`, "print(undef$());\n"}, {`undef = 1;`, "undef$ = 1;\n"}, {`print(fail);`, "print(fail$);\n"}, {`print(fail());`, "print(fail$());\n"}, {`fail = 1;`, "fail$ = 1;\n"},
		{`let undef = 1; print(undef); print(undef()); undef = 2;`, "let undef$1 = 1;\nprint(undef$1);\nprint(undef$1());\nundef$1 = 2;\n"}, {`function undef() { return 1; } print(undef()); undef = fail;`, "function undef$1() { return 1; }\nprint(undef$1());\nundef$1 = fail$;\n"}, {`let fail = 1; fail = fail;`, "let fail$1 = 1;\nfail$1 = fail$1;\n"},
		{`import { undef } from "./a"; export { x as undef }; let x = 1; print(undef); undef = undef();`, "let x$1 = 1;\nprint(x$1);\nfail x$1();\n"}, {`import * as undef from "./a"; export let undefined = 1; print(undef.undef); print(undef.undefined);`, "let undefined$1 = 1;\nprint(undef);\nprint(undefined$1);\n"}, {`import * as n from "./a"; export let undef = 1; print(n.undef); print(n.undef()); print(undef);`, "let undef$1 = 1;\nprint(undef$1);\nprint(undef$1());\nprint(undef$1);\n"},
		// What an import or an export is called elsewhere, and a space's field, are no names here.
		{`import { x as y } from "./a"; export let x = 1; export { x as z }; print(z);`, "let x$1 = 1;\nprint(z$);\n"}, {`import * as n from "./a"; print(n.none); print(none);`, "print(undef);\nprint(none$);\n"},
		{`let as = from; from = as;`, "let as$1 = from$;\nfrom$ = as$1;\n"},
	} {
		wantBundle(t, linked(t, c.text), c.want)
	}
	// What another module declares is not declared here, under no name of its own.
	wantBundle(t, linked(t, `import "./b"; print(1); print(x); print(f()); x = 2;`, `export let x = 1; export function f() { return y; } y = 3;`), "let x$1 = 1;\nfunction f$1() { return y$; }\ny$ = 3;\nprint(1);\nprint(x$);\nprint(f$());\nx$ = 2;\n")
	wantBundle(t, linked(t, `import { f } from "./b"; let y = 1; print(f()); print(hidden);`, `export function f() { return y; } let hidden = 1;`), "function f$1() { return y$; }\nlet hidden$1 = 1;\nlet y$2 = 1;\nprint(f$1());\nprint(hidden$);\n")
}

func TestBundleOfImportsThatAreWritten(t *testing.T) {
	for _, imports := range []string{`import { x as w } from "./b";`, `import { f as w } from "./b";`, `import w from "./b";`, `import { y as w } from "./c";`, `import { z as w } from "./c";`, `import { x as w } from "./c";`, `import { own as w } from "./c";`, `import { w } from "./a"; export { x as w } from "./b";`} {
		for _, c := range []struct{ text, want string }{{`w = 1;`, "fail 1;\n"}, {`w = none;`, "fail none$;\n"}, {`w = 1 + 2 * 3;`, "fail 1 + 2 * 3;\n"}, {`w = (1 - 2) * 3;`, "fail (1 - 2) * 3;\n"}, {`w = 1; w = 2; print(3);`, "fail 1;\nfail 2;\nprint(3);\n"}, {`let ww = 1; ww = 2; w = ww; W = 3;`, "let ww$3 = 1;\nww$3 = 2;\nfail ww$3;\nW$ = 3;\n"}} {
			wantBundle(t, writeGraph(t, imports+c.text), "let x$1 = 1;\nfunction f$1() { return 2; }\nlet default$1 = 3;\nx$1 = 4;\nlet own$2 = 5;\n"+c.want)
		}
	}
	// The one that declares it may write it, also where it exports it.
	wantBundle(t, linked(t, `import { a as b } from "./a"; export let a = 1; a = b + 1; b = a + 1;`), "let a$1 = 1;\na$1 = a$1 + 1;\nfail a$1 + 1;\n")
	wantBundle(t, linked(t, `import { x } from "./b"; print(x); x = 2;`, `import "./a"; export let x = 1; x = 3;`), "let x$1 = 1;\nx$1 = 3;\nprint(x$1);\nfail 2;\n")
	wantBundle(t, linked(t, `import "./b"; export let x = 1;`, `import { x } from "./a"; print(0); x = 1;`), "print(0);\nfail 1;\nlet x$2 = 1;\n")
}

func TestBundleOfSpaces(t *testing.T) {
	texts := []string{``, `export let x = 1; export function f() { return x; } export default f; let hidden = 1; export * from "./c"; export * from "./d"; export { x as y };`, `export function many() { return 5; } export function one() { return 6; } export default 7;`, `export function many() { return 8; } export { one as two } from "./c"; export { one } from "./c";`}
	ahead := "function many$1() { return 5; }\nfunction one$1() { return 6; }\nlet default$1 = 7;\nfunction many$2() { return 8; }\nlet x$3 = 1;\nfunction f$3() { return x$3; }\nlet default$3 = f$3;\nlet hidden$3 = 1;\n"
	for _, c := range []struct{ field, want string }{
		{"x", "x$3"}, {"f", "f$3"}, {"y", "x$3"}, {"default", "default$3"}, {"one", "one$1"}, {"two", "one$1"},
		// Nowhere, many, or not exported: all alike.
		{"none", "undef"}, {"many", "undef"}, {"hidden", "undef"}, {"n", "undef"}, {"X", "undef"}, {"undef", "undef"}, {"fail", "undef"}, {"from", "undef"},
	} {
		for _, f := range []struct{ form, want string }{{`print(E);`, "print(E);\n"}, {`print(E());`, "print(E());\n"}, {`throw E;`, "throw E;\n"}, {`let a = E;`, "let a$4 = E;\n"}, {`a = E;`, "a$ = E;\n"}, {`function a() { return E() + E; } print(a());`, "function a$4() { return E() + E; }\nprint(a$4());\n"}} {
			texts[0] = `import * as n from "./b"; let own = 1;` + strings.ReplaceAll(f.form, "E", "n."+c.field)
			wantBundle(t, linked(t, texts...), ahead+"let own$4 = 1;\n"+strings.ReplaceAll(f.want, "E", c.want))
		}
	}
	// Of several spaces each has its own; one field asked of two is two names.
	texts[0] = `import * as b from "./b"; import * as c from "./c"; import * as d from "./d"; import * as me from "./a"; export let x = 2; print(b.many + c.many + d.many + me.many); print(b.x + c.x + d.x + me.x); print(b.default + c.default + d.default + me.default);`
	wantBundle(t, linked(t, texts...), ahead+"let x$4 = 2;\nprint(undef + many$1 + many$2 + undef);\nprint(x$3 + undef + undef + x$4);\nprint(default$3 + default$1 + undef + undef);\n")
	// Each module has spaces of its own, under names that others have, too.
	wantBundle(t, linked(t, `import * as n from "./b"; print(n.x); print(n.y());`, `import * as n from "./a"; export let x = 1; print(n.x); print(n.y()); function n2() { return n.n; }`), "let x$1 = 1;\nprint(undef);\nprint(undef());\nfunction n2$1() { return undef; }\nprint(x$1);\nprint(undef());\n")
	// Where the Link leads counts.
	g := linked(t, `import { x } from "./b"; import * as n from "./c"; print(x); print(n.x);`, `export let x = 1;`, `export let x = 2;`)
	g.Links[0].To, g.Links[1].To = 2, 1
	wantBundle(t, g, "let x$1 = 2;\nlet x$2 = 1;\nprint(x$1);\nprint(x$2);\n")
}

func TestBundleOfNamesThatManyModulesHave(t *testing.T) {
	g := linked(t, `import { x as y, y as x } from "./b"; import { x as z } from "./c"; print(x + y + z); let a = 1; print(a);`, `export let x = 1; export let y = 2; let a = x + y; print(a); let z = 3; print(z);`, `import { y as a } from "./b"; export let x = 4; print(a + x); print(y);`)
	wantBundle(t, g, "let x$1 = 1;\nlet y$1 = 2;\nlet a$1 = x$1 + y$1;\nprint(a$1);\nlet z$1 = 3;\nprint(z$1);\nlet x$2 = 4;\nprint(y$1 + x$2);\nprint(y$);\nprint(y$1 + x$1 + x$2);\nlet a$3 = 1;\nprint(a$3);\n")
	// A digit at its end makes no name one of another module.
	g = linked(t, `import { x, x1, x_1 } from "./b"; let x2 = 1; let x11 = x1; print(x + x1 + x_1 + x2);`, `export let x = 1; export let x1 = 2; export let x_1 = 3; let x2 = 4; let x11 = 5;`)
	wantBundle(t, g, "let x$1 = 1;\nlet x1$1 = 2;\nlet x_1$1 = 3;\nlet x2$1 = 4;\nlet x11$1 = 5;\nlet x2$2 = 1;\nlet x11$2 = x1$1;\nprint(x$1 + x1$1 + x_1$1 + x2$2);\n")
}

func TestBundleOfModulesThatAskForEachOther(t *testing.T) {
	g := linked(t, `import { x, f } from "./b"; export let y = 1; export function g() { return x + y; } print(f()); print(g());`, `import { y, g } from "./a"; import * as a from "./a"; export let x = 2; export function f() { return y * 10 + g(); } print(x); print(g); print(a.y);`)
	wantBundle(t, g, "let x$1 = 2;\nfunction f$1() { return y$2 * 10 + g$2(); }\nprint(x$1);\nprint(g$2);\nprint(y$2);\nlet y$2 = 1;\nfunction g$2() { return x$1 + y$2; }\nprint(f$1());\nprint(g$2());\n")
	wantGraphCourse(t, g, `5:2 7:function 9:ref`)
	g = linked(t, `import { x as me } from "./a"; export let x = 1; print(me); x = 2; print(me);`)
	wantBundle(t, g, "let x$1 = 1;\nprint(x$1);\nx$1 = 2;\nprint(x$1);\n")
	g = linked(t, `import { f } from "./b"; export function e() { return f(); } print(e());`, `import { g } from "./c"; export function f() { return g(); }`, `import { e } from "./a"; export function g() { return e(); }`)
	wantBundle(t, g, "function g$1() { return e$3(); }\nfunction f$2() { return g$1(); }\nfunction e$3() { return f$2(); }\nprint(e$3());\n")
	wantGraphCourse(t, g, fmt.Sprint(3+1+1+impl.MaxCalls, ":range"))
}

// inParts are n modules, the first of which asks for all others; each of them has part of a list, as alike as may be.
func inParts(t *testing.T, n int, items []string) impl.Graph {
	t.Helper()
	texts := make([]string, n)
	for i := range n {
		if i > 0 {
			texts[0] += asking("./" + string(rune('a'+i)))
		}
		texts[i] += strings.Join(items[i*len(items)/n:(i+1)*len(items)/n], "")
	}
	return linked(t, texts...)
}

func TestBundleAtTheLimits(t *testing.T) {
	// So many statements of one expression, and so many of five.
	for _, c := range []struct{ ones, fives int }{{79, 0}, {80, 0}, {81, 0}, {0, 60}, {4, 59}, {5, 59}, {6, 59}, {1, 60}, {25, 55}, {24, 55}, {26, 55}, {26, 54}, {27, 54}, {71, 10}, {0, 61}, {200, 0}, {100, 100}} {
		items := append(slices.Repeat([]string{`q = 1;`}, c.ones), slices.Repeat([]string{`print(1 + 2 - 3);`}, c.fives)...)
		stmts, exprs := c.ones+c.fives, c.ones+5*c.fives
		isBig := stmts > 80 || exprs > 300
		for n := 1; n <= impl.MaxFiles; n++ {
			for _, l := range [][]string{items, slices.Concat(items[c.ones:], items[:c.ones])} {
				// A module alone has no room for that.
				if isBig && (n == 1 || stmts > n*60) {
					continue
				}
				g := inParts(t, n, l)
				m, f := wantBundled(t, g)
				if isBig && f != (impl.Fault{Kind: impl.FaBig, Path: "/a"}) || !isBig && (f != (impl.Fault{}) || len(m.Stmts) != stmts || len(m.Exprs) != exprs) {
					t.Errorf("%d modules with %d Stmts and %d Exprs tell %v, with %d and %d", n, stmts, exprs, f, len(m.Stmts), len(m.Exprs))
				}
				if !isBig {
					wantBundleRun(t, g, m, 0, 1, 2, 50, 150, 151, 299, 300, 301, 379, 380, 381, impl.MaxFuel)
				}
			}
		}
	}
}

func TestBundleOfWhatIsTooBig(t *testing.T) {
	// It is the first module's Path, not that of the one that runs first, or that is great.
	long, short := strings.Repeat(`print(1);`, impl.MaxStmts), `print(2);`
	for _, texts := range [][]string{{asking("./b") + long, short}, {asking("./b") + short, long}, {asking("./b") + long, long}, {asking("./b"), asking("./c") + short, long}} {
		g := linked(t, texts...)
		wantBundleFault(t, g, impl.Fault{Kind: impl.FaBig, Path: "/a"})
		g.Paths = append([]string{"/x/first"}, g.Paths[1:]...)
		wantBundleFault(t, g, impl.Fault{Kind: impl.FaBig, Path: "/x/first"})
		if run := impl.Run(g, 10); run.End != impl.TrFuel || len(run.Out) != 5 {
			t.Errorf("Run of it tells %v", run)
		}
	}
	wantBundle(t, linked(t, asking("./b")+strings.Repeat(`q = 1;`, 79), short), "print(2);\n"+strings.Repeat("q$ = 1;\n", 79))
	// As many as there may be at all.
	all := make([]string, impl.MaxFiles)
	for i := range all {
		all[i] = fullText(i)
	}
	wantBundleFault(t, linked(t, all...), impl.Fault{Kind: impl.FaBig, Path: "/a"})
	// What does not link counts ahead of it, and what is not right ahead of both.
	g := linked(t, `import { none } from "./b";`+long, short)
	wantBundleFault(t, g, impl.Fault{Kind: impl.FaLink, Path: "/a", At: 100})
	g.Links = nil
	wantBundleFault(t, g, impl.Fault{Kind: impl.FaLink, At: -1})
	g = linked(t, asking("./b")+long, short)
	g.Paths[1] = "/a"
	wantBundleFault(t, g, impl.Fault{Kind: impl.FaLink, At: -1})
}

// fullText has as many statements and expressions as a module may have, and asks for the next one.
func fullText(i int) string {
	return asking("/"+string(rune('a'+(i+1)%impl.MaxFiles))) + strings.Repeat(`x = 1;`, 79) + `x = ` + strings.Repeat(`1 + `, 110) + `1;`
}

func TestBundleOfDeepPrograms(t *testing.T) {
	deep := strings.Repeat("(1 + ", impl.MaxDepth) + "x" + strings.Repeat(")", impl.MaxDepth)
	turned := "1 + " + strings.Repeat("(1 + ", impl.MaxDepth-1) + "x$1" + strings.Repeat(")", impl.MaxDepth-1)
	wantBundle(t, linked(t, `import { x } from "./b"; import * as n from "./b"; x = `+deep+`; print(`+strings.Replace(deep, "x", "n.x", 1)+`); throw `+strings.Replace(deep, "x", "n.x()", 1)+`;`, `export let x = 1;`), "let x$1 = 1;\nfail "+turned+";\nprint("+turned+");\nthrow "+strings.Replace(turned, "x$1", "x$1()", 1)+";\n")
	long := strings.Repeat("n", 100)
	wantBundle(t, linked(t, `import { `+long+` as x } from "./b"; print(x); print(`+long+`);`, `export let `+long+` = 1;`), "let "+long+"$1 = 1;\nprint("+long+"$1);\nprint("+long+"$);\n")
	sum := strings.Repeat("1 + ", 140) + "g()"
	g := linked(t, `import { g } from "./b"; function f() { return `+sum+`; } print(f());`, `export function g() { return 1; }`)
	wantBundle(t, g, "function g$1() { return 1; }\nfunction f$2() { return "+strings.Repeat("1 + ", 140)+"g$1(); }\nprint(f$2());\n")
	wantBundleCourse(t, g, courseOf(`286:141 286:done`), math.MaxInt)
}
