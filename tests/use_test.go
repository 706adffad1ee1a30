package tests

import (
	"fmt"
	"math"
	"slices"
	"strings"
	"testing"

	"loop.example/g00777/impl"
)

// wantNames asks for what Uses, Unused and FreeNames tell, each as names with a blank between, and for the promise of them.
func wantNames(t *testing.T, what string, m impl.Mod, uses, unused, free string) {
	t.Helper()
	for _, c := range []struct {
		name string
		got  []string
		want string
	}{{"Uses", impl.Uses(m), uses}, {"Unused", impl.Unused(m), unused}, {"FreeNames", impl.FreeNames(m), free}} {
		if !slices.Equal(c.got, strings.Fields(c.want)) {
			t.Errorf("%s: %s is %q, not %q", what, c.name, c.got, c.want)
		}
	}
	wantNamesHeld(t, m)
}

// nameRow is a text, and the names that are told of it.
type nameRow struct{ text, uses, unused, free string }

func wantNamesOfAll(t *testing.T, script bool, rows []nameRow) {
	t.Helper()
	for _, c := range rows {
		wantNames(t, c.text, mustParse(t, c.text, script), c.uses, c.unused, c.free)
	}
}

func TestNamesOfEachItem(t *testing.T) {
	wantNamesOfAll(t, false, []nameRow{
		{``, ``, ``, ``}, {`print(1);`, ``, ``, ``}, {`print(a);`, `a`, ``, `a`}, {`print(a());`, `a`, ``, `a`}, {`print(1 + a * (b - c()));`, `a b c`, ``, `a b c`},
		{`throw a;`, `a`, ``, `a`}, {`throw a() - 1;`, `a`, ``, `a`}, {`a = 1;`, `a`, ``, `a`}, {`a = b;`, `a b`, ``, `a b`}, {`a = a();`, `a`, ``, `a`},
		{`let a = 1;`, ``, ``, ``}, {`let a = b;`, `b`, ``, `b`}, {`let a = a;`, `a`, ``, ``}, {`let a = 1; a = 2;`, `a`, ``, ``}, {`let a = 1; print(a);`, `a`, ``, ``},
		{`function f() { return 1; }`, ``, ``, ``}, {`function f() { return a; }`, `a`, ``, `a`}, {`function f() { return f() + 1; }`, `f`, ``, ``}, {`function f() { return 1; } f = f;`, `f`, ``, ``},
		{`export let a = 1;`, `a`, ``, ``}, {`export let a = b;`, `a b`, ``, `b`}, {`export function f() { return 1; }`, `f`, ``, ``}, {`export function f() { return g(); }`, `f g`, ``, `g`},
		{`let a = 1; export { a };`, `a`, ``, ``}, {`let a = 1; export { a as b };`, `a`, ``, ``}, {`let a = 1; export { a as default };`, `a`, ``, ``}, {`export { a };`, `a`, ``, ``}, {`export { a as b, b as a };`, `a b`, ``, ``},
		{`export { a } from "x";`, ``, ``, ``}, {`export { a as b } from "x";`, ``, ``, ``}, {`export { default as b, c as default } from "x";`, ``, ``, ``}, {`export * from "x";`, ``, ``, ``}, {`import "x";`, ``, ``, ``},
		{`import { a } from "x";`, ``, `a`, ``}, {`import { a as b } from "x";`, ``, `b`, ``}, {`import { default as b } from "x";`, ``, `b`, ``}, {`import a from "x";`, ``, `a`, ``}, {`import * as n from "x";`, ``, `n`, ``},
		{`import { a, b as c, d } from "x"; import e from "x";`, ``, `a c d e`, ``},
	})
}

func TestNamesOfDefault(t *testing.T) {
	// What it exports is a Local like any other; it is declared by nobody, and nobody can read it.
	wantNamesOfAll(t, false, []nameRow{
		{`export default 1;`, `*default`, ``, ``}, {`export default a;`, `*default a`, ``, `a`}, {`let a = 1; export default a();`, `*default a`, ``, ``},
		{`import a from "x"; export default 1;`, `*default`, `a`, ``}, {`import a from "x"; export default a;`, `*default a`, ``, ``}, {`export default 1; export let _ = 1; export let A = 1;`, `*default A _`, ``, ``},
		{`import { default as a } from "x"; export { a as default };`, `a`, ``, ``}, {`export { default } from "x"; import a from "x";`, ``, `a`, ``}, {`import * as n from "x"; print(n.default);`, `n`, ``, ``},
	})
}

func TestNamesOfImports(t *testing.T) {
	// Each way to use an import, of each kind of import but that of a space.
	for _, use := range []string{
		`print(a);`, `print(a());`, `print(1 + 2 * (3 - a));`, `a = 1;`, `a = a;`, `throw a;`, `throw a();`, `let b = a;`, `function f() { return a; }`, `export { a };`, `export { a as b };`, `export { a as default };`, `print(a.b);`, `print(a.a());`,
	} {
		for _, head := range []string{`import { a } from "x";`, `import { q as a } from "x";`, `import { default as a } from "x";`, `import a from "x";`} {
			for _, text := range []string{head + use, use + head} {
				wantNames(t, text, mustParse(t, text, false), `a`, ``, ``)
				text += `import { c } from "y"; import * as d from "x";`
				wantNames(t, text, mustParse(t, text, false), `a`, `c d`, ``)
			}
		}
	}
	wantNamesOfAll(t, false, []nameRow{
		{`import { a, b } from "x"; export default a;`, `*default a`, `b`, ``}, {`import { a, b } from "x"; export let c = a;`, `a c`, `b`, ``}, {`import { a, b } from "x"; export function f() { return a() * 2; }`, `a f`, `b`, ``},
	})
	// What stands there by its name alone, and is another thing, is no use.
	for _, text := range []string{
		``, `export { a } from "x";`, `export { a as b, b as a } from "x";`, `export * from "x";`, `export { default as a } from "x";`, `import "a";`, `import { a as b } from "a"; print(b);`, `import * as n from "x"; print(n.a);`, `import * as n from "x"; print(n.a());`,
		`let b = 1; export { b as a };`, `let b = 1; export { b, b as a, b as c };`, `print(1); throw 2;`, `let a1 = 1; print(a1); A = 1;`, `export default 1;`,
	} {
		m := mustParse(t, `import { a } from "x";`+text, false)
		if got := impl.Unused(m); !slices.Equal(got, []string{"a"}) {
			t.Errorf("Unused of %q is %q", text, got)
		}
		wantNamesHeld(t, m)
	}
	wantNamesOfAll(t, false, []nameRow{
		{`import { a as b } from "x"; print(a);`, `a`, `b`, `a`}, {`import { a as b, b as a } from "x"; print(a);`, `a`, `b`, ``}, {`import { from, as } from "x"; print(from);`, `from`, `as`, ``},
		{`import { a } from "x"; let a = 1;`, ``, `a`, ``}, {`import { a } from "x"; function a() { return a; }`, `a`, ``, ``}, {`import { a } from "x"; import { a } from "y";`, ``, `a`, ``}, {`import { a } from "x"; import * as a from "y"; print(a.a);`, `a`, ``, ``},
	})
}

func TestNamesOfSpaces(t *testing.T) {
	wantNamesOfAll(t, false, []nameRow{
		{`import * as n from "x"; print(n.a);`, `n`, ``, ``}, {`import * as n from "x"; print(n.a());`, `n`, ``, ``}, {`import * as n from "x"; print(n.n + n.n());`, `n`, ``, ``}, {`import * as n from "x"; let a = n.b;`, `n`, ``, ``}, {`import * as n from "x"; a = n.b();`, `a n`, ``, `a`},
		// The field is no name that is used, nor one that is free, also where another thing has it.
		{`import * as n from "x"; import { a, b } from "x"; print(n.a + n.b());`, `n`, `a b`, ``}, {`import * as n from "x"; import * as m from "x"; print(n.m);`, `n`, `m`, ``}, {`import * as n from "x"; import * as m from "x"; print(n.m + m.n());`, `m n`, ``, ``},
		{`import * as n from "x"; import * as m from "x"; import * as o from "x"; print(o.n);`, `o`, `m n`, ``}, {`let a = 1; import * as n from "x"; print(n.a);`, `n`, ``, ``}, {`import * as n from "x"; print(n.a); print(a);`, `a n`, ``, `a`},
		// What FreeNames asks is what stands without a point.
		{`print(n.a);`, `n`, ``, ``}, {`print(n.a());`, `n`, ``, ``}, {`print(n.a + n);`, `n`, ``, `n`}, {`print(n.a + n());`, `n`, ``, `n`}, {`n = n.a;`, `n`, ``, `n`}, {`print(n.a + a);`, `a n`, ``, `a`}, {`let n = 1; print(n.a);`, `n`, ``, ``}, {`export { n }; print(n.a());`, `n`, ``, ``},
		{`import * as n from "x"; print(n);`, `n`, ``, ``}, {`import * as n from "x"; print(n());`, `n`, ``, ``}, {`import * as n from "x"; n = 1;`, `n`, ``, ``}, {`import * as n from "x"; export { n };`, `n`, ``, ``}, {`import * as n from "x"; export { n } from "x";`, ``, `n`, ``},
	})
}

func TestNamesThatAreFree(t *testing.T) {
	// What declares a name does so wherever it stands.
	for _, use := range []string{`print(a);`, `print(a());`, `a = 1;`, `print(2 * a - a());`, `a = a + 1;`, `let b = a;`, `function f() { return a(); }`, `export default a;`} {
		m := mustParse(t, use, false)
		if got := impl.FreeNames(m); !slices.Equal(got, []string{"a"}) {
			t.Errorf("FreeNames of %q is %q", use, got)
		}
		for _, declared := range []string{`let a = 1;`, `function a() { return 1; }`, `export let a = 1;`, `export function a() { return 1; }`, `import { a } from "x";`, `import { c as a } from "x";`, `import a from "x";`, `import * as a from "x";`} {
			for _, text := range []string{declared + use, use + declared, declared + use + declared} {
				m := mustParse(t, text, false)
				if got := impl.FreeNames(m); len(got) != 0 {
					t.Errorf("FreeNames of %q is %q", text, got)
				}
				wantNamesHeld(t, m)
			}
		}
		// These do not.
		for _, text := range []string{use + use, `let a1 = 1; let A = 2;` + use, `import { a as c } from "x";` + use, `export { a } from "x";` + use, `export { c as a } from "a";` + use, `export * from "a"; import "a";` + use, `let c = 1; export { c as a };` + use, `import * as n from "x"; print(n.a);` + use, `export { a };` + use} {
			m := mustParse(t, text, false)
			if got := impl.FreeNames(m); !slices.Equal(got, []string{"a"}) {
				t.Errorf("FreeNames of %q is %q", text, got)
			}
			wantNamesHeld(t, m)
		}
	}
	wantNamesOfAll(t, false, []nameRow{
		{`print(undef + fail());`, `fail undef`, ``, `fail undef`}, {`let undef = 1; print(undef); fail = 2;`, `fail undef`, ``, `fail`}, {`let a = b; let b = c; c = d();`, `b c d`, ``, `c d`},
	})
}

func TestNamesAreToldInOrderAndOnce(t *testing.T) {
	wantNamesOfAll(t, false, []nameRow{
		{`print(b + a + B + _ + a1 + a_ + ab + A + aB + Z9);`, `A B Z9 _ a a1 aB a_ ab b`, ``, `A B Z9 _ a a1 aB a_ ab b`}, {`c = b; b = a; a = c;`, `a b c`, ``, `a b c`}, {`print(a + a() + a * a()); a = a; throw a;`, `a`, ``, `a`},
		{`import { b, a as _, Z, a10, a9 } from "x";`, ``, `Z _ a10 a9 b`, ``}, {`import { z } from "x"; import y from "w"; import * as x from "w"; print(b); export { c };`, `b c`, `x y z`, `b`},
		{`import { a } from "x"; a = a + a() - a * a; export { a, a as b, a as c }; print(a); let d = a; function f() { return a; } throw a();`, `a`, ``, ``},
		{`import * as n from "x"; print(n.a + n.a() + n.b); let d = n.a; throw n.c();`, `n`, ``, ``},
	})
}

func TestNamesOfScripts(t *testing.T) {
	wantNamesOfAll(t, true, []nameRow{
		{``, ``, ``, ``}, {`fail 1;`, ``, ``, ``}, {`fail a;`, `a`, ``, `a`}, {`print(undef);`, `undef`, ``, `undef`}, {`print(undef());`, `undef`, ``, `undef`}, {`let a$ = 1; print(a$ + b$2());`, `a$ b$2`, ``, `b$2`}, {`$ = $;`, `$`, ``, `$`},
		{`let a = undef; function f$1() { return a; } fail f$1() + g$; a = 2; h = 3;`, `a f$1 g$ h undef`, ``, `g$ h undef`}, {`print($a.b);`, `$a`, ``, ``},
	})
}

func TestNamesOfEachKind(t *testing.T) {
	// Of what has a kind, that kind alone counts, whatever else is there: none of these is a program.
	for kind := -2; kind <= 12; kind++ {
		expr := impl.Mod{Exprs: []impl.Expr{{Kind: kind, Name: "a", Field: "b", Num: 1, L: -1, R: 7}}}
		uses, free := ``, ``
		if kind >= impl.ExName && kind <= impl.ExMemCall {
			uses = `a`
		}
		if kind == impl.ExName || kind == impl.ExCall {
			free = `a`
		}
		wantNames(t, fmt.Sprint("an Expr of kind ", kind), expr, uses, ``, free)
		expr.Imps = []impl.Imp{{Local: "a"}, {Local: "b"}}
		unused := `a b`
		if uses != "" {
			unused = `b`
		}
		wantNames(t, fmt.Sprint("an Expr and Imps, of kind ", kind), expr, uses, unused, ``)

		uses = ``
		if kind == impl.StSet {
			uses = `a`
		}
		wantNames(t, fmt.Sprint("a Stmt of kind ", kind), impl.Mod{Stmts: []impl.Stmt{{Kind: kind, Name: "a", Expr: 9}}}, uses, ``, uses)

		// What declares a name is a StLet or a StFn.
		free = `a`
		if kind == impl.StLet || kind == impl.StFn {
			free = ``
		}
		wantNames(t, fmt.Sprint("a Stmt and an Expr, of kind ", kind), impl.Mod{Stmts: []impl.Stmt{{Kind: kind, Name: "a"}}, Exprs: []impl.Expr{{Kind: impl.ExName, Name: "a"}}}, `a`, ``, free)

		uses = ``
		if kind == impl.EpLocal {
			uses = `b`
		}
		wantNames(t, fmt.Sprint("an Exp of kind ", kind), impl.Mod{Exps: []impl.Exp{{Kind: kind, Name: "a", Local: "b", Spec: "c"}}}, uses, ``, ``)
	}
}

func TestNamesOfOddPrograms(t *testing.T) {
	def := impl.DefaultName
	read := []impl.Expr{{Kind: impl.ExName, Name: def}}
	for _, c := range []struct {
		what               string
		m                  impl.Mod
		uses, unused, free string
	}{
		{"the zero Mod", impl.Mod{}, ``, ``, ``},
		{"empty lists", impl.Mod{Requests: []string{}, Imps: []impl.Imp{}, Exps: []impl.Exp{}, Stmts: []impl.Stmt{}, Exprs: []impl.Expr{}}, ``, ``, ``},
		{"DefaultName is read", impl.Mod{Exprs: read}, def, ``, def},
		{"DefaultName is read, and let", impl.Mod{Exprs: read, Stmts: []impl.Stmt{{Kind: impl.StLet, Name: def}}}, def, ``, def},
		{"DefaultName is read, and a function", impl.Mod{Exprs: read, Stmts: []impl.Stmt{{Kind: impl.StFn, Name: def}}}, def, ``, ``},
		{"DefaultName is read, and imported", impl.Mod{Exprs: read, Imps: []impl.Imp{{Local: def}}}, def, ``, ``},
		{"DefaultName is imported", impl.Mod{Imps: []impl.Imp{{Local: def}}}, ``, def, ``},
		{"DefaultName is imported and exported", impl.Mod{Imps: []impl.Imp{{Local: def}}, Exps: []impl.Exp{{Kind: impl.EpLocal, Local: def}}}, def, ``, ``},
		{"DefaultName is written", impl.Mod{Stmts: []impl.Stmt{{Kind: impl.StSet, Name: def}, {Kind: impl.StLet, Name: def}}}, def, ``, def},
		{"two Imps of one Local", impl.Mod{Imps: []impl.Imp{{Spec: "x", From: "a", Local: "b"}, {Spec: "y", From: "*", Local: "b"}, {Spec: "x", From: "a", Local: "b"}}}, ``, `b`, ``},
		{"two Imps of one Local that is used", impl.Mod{Imps: []impl.Imp{{Spec: "x", From: "a", Local: "b"}, {Spec: "y", From: "*", Local: "b"}, {Local: "c"}}, Exprs: []impl.Expr{{Kind: impl.ExMember, Name: "b"}}}, `b`, `c`, ``},
		{"a sum with a name", impl.Mod{Exprs: []impl.Expr{{Kind: impl.ExAdd, Name: "a", Field: "b"}, {Kind: impl.ExNum, Name: "c"}}}, ``, ``, ``},
		{"an Expr that nobody tells", impl.Mod{Exprs: []impl.Expr{{Kind: impl.ExCall, Name: "a"}, {Kind: impl.ExNum}}, Stmts: []impl.Stmt{{Kind: impl.StPrint, Expr: 1}}}, `a`, ``, `a`},
		{"words", impl.Mod{Imps: []impl.Imp{{Local: "let"}, {Local: "if"}}, Exprs: []impl.Expr{{Kind: impl.ExName, Name: "let"}, {Kind: impl.ExName, Name: "print"}}}, `let print`, `if`, `print`},
		{"other bytes", impl.Mod{Imps: []impl.Imp{{Local: "\xff"}, {Local: "\x00"}, {Local: "\x80"}}, Stmts: []impl.Stmt{{Kind: impl.StSet, Name: "\x80"}, {Kind: impl.StSet, Name: "\xc3\xa4"}}}, "\x80 \xc3\xa4", "\x00 \xff", "\xc3\xa4"},
	} {
		wantNames(t, c.what, c.m, c.uses, c.unused, c.free)
	}
	// A name without a byte is a name.
	empty := impl.Mod{Imps: []impl.Imp{{Local: ""}, {Local: "a"}}}
	if got := impl.Unused(empty); !slices.Equal(got, []string{"", "a"}) {
		t.Errorf("Unused of a name without a byte is %q", got)
	}
	empty.Exprs = []impl.Expr{{Kind: impl.ExCall}, {Kind: impl.ExName, Name: "b"}}
	if uses, free := impl.Uses(empty), impl.FreeNames(empty); !slices.Equal(uses, []string{"", "b"}) || !slices.Equal(free, []string{"b"}) {
		t.Errorf("Uses of a name without a byte is %q, FreeNames is %q", uses, free)
	}
	empty.Imps = nil
	if free := impl.FreeNames(empty); !slices.Equal(free, []string{"", "b"}) {
		t.Errorf("FreeNames of a name without a byte is %q", free)
	}
	wantNamesHeld(t, empty)
}

func TestNamesOfGreatPrograms(t *testing.T) {
	m := impl.Mod{}
	for i := range 1 << 16 {
		name := fmt.Sprintf("n%05d", i%(1<<15))
		m.Imps = append(m.Imps, impl.Imp{Spec: name, From: "a", Local: name})
		if i%4 == 0 {
			m.Exprs = append(m.Exprs, impl.Expr{Kind: impl.ExName + i/4%4, Name: name, L: math.MinInt, R: math.MaxInt})
		}
		m.Stmts = append(m.Stmts, impl.Stmt{Kind: impl.StSet, Name: "s" + name})
	}
	if uses, unused, free := impl.Uses(m), impl.Unused(m), impl.FreeNames(m); len(uses) != 1<<13+1<<15 || len(unused) != 1<<15-1<<13 || len(free) != 1<<15 {
		t.Errorf("there are %d, %d and %d names", len(uses), len(unused), len(free))
	}
	if got := impl.Trim(m); len(got.Imps) != 1<<14 || len(got.Exprs) != len(m.Exprs) || len(got.Stmts) != len(m.Stmts) {
		t.Errorf("%d Imps are left", len(got.Imps))
	}
	full := fullMod()
	wantNames(t, "as many of each thing as there may be", full, `n`, `as`, ``)
	if got := impl.Trim(full); len(got.Imps) != 0 || len(got.Requests) != impl.MaxNames {
		t.Errorf("%d Imps and %d requests are left", len(got.Imps), len(got.Requests))
	}
}

// wantTrimmed asks for the Imps that are left, by their Locals, and that all else stays as it is.
func wantTrimmed(t *testing.T, what string, m impl.Mod, left string) {
	t.Helper()
	got := impl.Trim(m)
	locals := []string{}
	for _, i := range got.Imps {
		locals = append(locals, i.Local)
	}
	if strings.Join(locals, " ") != left {
		t.Errorf("%s: the Imps %q are left, not %q", what, locals, left)
	}
	wantNamesHeld(t, m)
}

func TestTrim(t *testing.T) {
	for _, c := range []struct{ text, left string }{
		{``, ``}, {`let a = 1; print(a);`, ``}, {`import "x";`, ``}, {`import { a } from "x";`, ``}, {`import { a } from "x"; print(a);`, `a`}, {`import { a, b } from "x"; b = 1;`, `b`}, {`import { c, b, a } from "x"; print(a + c);`, `c a`}, {`import { a, b } from "x"; export { a };`, `a`},
		{`import { a } from "x"; import b from "y"; import * as n from "z"; export * from "w"; export { a } from "x";`, ``}, {`import { a } from "x"; import b from "y"; import * as n from "z"; print(n.a);`, `n`}, {`import { a } from "x"; import b from "y"; import * as n from "z"; print(n.b + b);`, `b n`},
		{`import { a as b, b as a } from "x"; print(a);`, `a`}, {`import { b, a } from "x"; export default a();`, `a`}, {`import { a } from "x"; import { a } from "x"; print(1);`, ``}, {`import { a } from "x"; import { a } from "x"; print(a);`, `a a`}, {`import { a } from "x"; let a = 1; print(a);`, `a`},
	} {
		wantTrimmed(t, c.text, mustParse(t, c.text, false), c.left)
	}
	// The requests stay, in their order, also those that nobody names any more.
	m := impl.Trim(mustParse(t, `import { a } from "x"; import "w"; import * as n from "y"; import { b } from "x"; import d from "z"; print(b);`, false))
	want := mustParse(t, `import "x"; import "w"; import "y"; import "z"; import { b } from "x"; print(b);`, false)
	if !isSameMod(m, want) || !impl.ModOk(m, false) {
		t.Errorf("Trim is %+v, not %+v", m, want)
	}
}

func TestTrimOfOddPrograms(t *testing.T) {
	imps := []impl.Imp{{Spec: "x", From: "a", Local: "b"}, {Spec: "y", From: "*", Local: "c"}, {From: "q"}, {Spec: "z", Local: "b"}}
	wantTrimmed(t, "Imps alone", impl.Mod{Imps: imps}, ``)
	wantTrimmed(t, "a name that two have", impl.Mod{Imps: imps, Exps: []impl.Exp{{Kind: impl.EpLocal, Local: "b"}}}, `b b`)
	wantTrimmed(t, "a name without a byte", impl.Mod{Imps: imps, Exprs: []impl.Expr{{Kind: impl.ExName}}}, ``)
	wantTrimmed(t, "a space that is none", impl.Mod{Imps: imps, Exprs: []impl.Expr{{Kind: impl.ExMember, Name: "b"}, {Kind: impl.ExMemCall, Name: "c", Field: "b"}}}, `b c b`)
	wantTrimmed(t, "a name that is set alone", impl.Mod{Imps: imps, Stmts: []impl.Stmt{{Kind: impl.StSet, Name: "c", Expr: -1}}}, `c`)
	if got := impl.Trim(impl.Mod{Imps: imps, Exprs: []impl.Expr{{Kind: impl.ExName}}}); !slices.Equal(got.Imps, imps[2:3]) {
		t.Errorf("the Imps %q are left", got.Imps)
	}
	// What is not right stays so, field by field.
	odd := impl.Mod{
		Requests: []string{"a", "a", "\"", ""},
		Exps:     []impl.Exp{{Kind: 9, Name: "a", Local: "b", Spec: "c"}, {Kind: impl.EpStar, Name: "a", Local: "b"}},
		Stmts:    []impl.Stmt{{Kind: -1, Name: "let", Expr: math.MaxInt}, {Kind: impl.StPrint, Name: "p", Expr: math.MinInt}},
		Exprs:    []impl.Expr{{Kind: 77, Num: -5, Name: "n", Field: "f", L: 3, R: -3}, {Kind: impl.ExNum, Num: math.MaxInt, Name: "x", Field: "y", L: 1, R: 2}},
	}
	if got := impl.Trim(odd); !isSameMod(got, odd) {
		t.Errorf("Trim is %+v, not %+v", got, odd)
	}
	for _, m := range []impl.Mod{{}, {Requests: []string{}, Imps: []impl.Imp{}, Exps: []impl.Exp{}, Stmts: []impl.Stmt{}, Exprs: []impl.Expr{}}, {Imps: imps}} {
		if got := impl.Trim(m); !isSameMod(got, impl.Mod{}) {
			t.Errorf("Trim is %+v", got)
		}
	}
}
