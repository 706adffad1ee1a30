package tests

import (
	"slices"
	"strconv"
	"strings"
	"testing"

	"loop.example/g00777/impl"
)

// wantEarly asks for what Early tells of the program of a text, and of each other text of it.
func wantEarly(t *testing.T, s string, script bool, want int) {
	t.Helper()
	m := mustParse(t, s, script)
	wantEarlyOf(t, m, want)
	for _, text := range []string{impl.Print(m, script), bookish(m), "// " + s + "\n" + strings.ReplaceAll(s, " ", "\n") + "\n// " + s} {
		if got := impl.Early(mustParse(t, text, script), script); got != want {
			t.Errorf("Early of %q is %d, but of %q it is %d", text, got, s, want)
		}
	}
}

// wantEarlyOf asks for what Early tells of m, which hangs neither on script nor on the order of its lists.
func wantEarlyOf(t *testing.T, m impl.Mod, want int) {
	t.Helper()
	back := cloneMod(m)
	slices.Reverse(back.Requests)
	slices.Reverse(back.Imps)
	slices.Reverse(back.Exps)
	slices.Reverse(back.Stmts)
	slices.Reverse(back.Exprs)
	for _, script := range inBoth {
		if got := impl.Early(m, script); got != want {
			t.Errorf("Early(%.400s, %v) = %d, not %d", dump(m), script, got, want)
		}
		if got := impl.Early(back, script); got != want {
			t.Errorf("Early(%.400s, %v) = %d, not %d as it is the other way", dump(back), script, got, want)
		}
	}
}

func TestEarlyConstants(t *testing.T) {
	codes := []int{impl.EaOk, impl.EaDup, impl.EaExport, impl.EaUnbound, impl.EaSpace, impl.EaMember}
	if !slices.Equal(codes, []int{0, 1, 2, 3, 4, 5}) {
		t.Errorf("the codes are %v", codes)
	}
}

func TestEarlyOfProgramsWithoutErrors(t *testing.T) {
	for _, s := range []string{
		``,
		`let a = 1; let b = 2; function c() { return a; } print(c() + b);`,
		// What is not declared may be read, written and called.
		`print(a); print(b()); c = d * e(); throw f;`,
		`function f() { return f() - g(); } f = 1; g = f;`,
		`a = 1; a = 2; a = a; let a = 3; a = 4; print(a); print(a);`,
	} {
		for _, script := range inBoth {
			wantEarly(t, s, script, impl.EaOk)
		}
	}
	wantEarly(t, `let a$ = undef; let $ = a$; function $1() { return undef(); } fail $1() + $2; fail a$;`, true, impl.EaOk)
	for _, s := range []string{
		`import "x"; import "x"; import "y";`,
		`import { a, b as c, default as d } from "x"; import e from "x"; print(a + c() + d); e = b; b = 1; a = 2;`,
		`import { a } from "x"; import { a as b } from "x"; import { a as c } from "y";`,
		`import * as n from "x"; import * as k from "x"; print(n.a + n.b() - k.a * k.default); throw n.n;`,
		`import { n as a } from "x"; import * as n from "x"; let b = n.a;`,
		`let a = 1; export { a }; export { a as b, a as c }; export { a as default };`,
		`export let a = 1; export function f() { return a; } export default f();`,
		`import { a } from "x"; import d from "x"; export { a, d, d as default };`,
		`export { a, b as c } from "x"; export { a as d, a as default } from "y"; export { default as e } from "x";`,
		`export * from "x"; export * from "x"; export * from "y"; export { a } from "x";`,
		// A name in a list of an export from, a Field and a From name nothing of this module.
		`import * as n from "x"; export { n, n as m, q } from "x"; print(n.n);`,
		`let a = 1; let b = 2; export { b as a, a as b };`,
		`import { a as b } from "x"; let a = 1; export { c as a } from "y"; export { a as c };`,
	} {
		wantEarly(t, s, false, impl.EaOk)
	}
}

// declarations declare a name, each in another way.
func declarations(script bool) []string {
	ways := []string{`let N = 1;`, `function N() { return 1; }`}
	if script {
		return ways
	}
	return append(ways, `import { N } from "x";`, `import { q as N } from "x";`, `import { default as N } from "y";`, `import N from "x";`, `import * as N from "y";`)
}

func named(form, name string) string {
	return strings.ReplaceAll(form, "N", name)
}

func TestEarlyOfANameDeclaredTwice(t *testing.T) {
	for _, script := range inBoth {
		for _, first := range declarations(script) {
			for _, second := range declarations(script) {
				wantEarly(t, named(first, "a")+named(second, "a"), script, impl.EaDup)
				wantEarly(t, named(first, "a")+named(second, "b"), script, impl.EaOk)
				wantEarly(t, named(first, "a")+named(second, "A"), script, impl.EaOk)
				wantEarly(t, named(first, "a")+named(second, "aa"), script, impl.EaOk)
				wantEarly(t, named(first, "b")+named(second, "c")+"print(1);"+named(first, "d")+named(second, "c"), script, impl.EaDup)
				wantEarly(t, named(first, "a")+named(second, "a")+named(second, "a"), script, impl.EaDup)
			}
		}
	}
	for _, s := range []string{
		`import { a, a } from "x";`,
		`import { a, b as a } from "x";`,
		`import { a as b, b } from "x";`,
		`export let a = 1; export { a as b }; let a = 2;`,
		`export let a = 1; export { a as b }; function a() { return a; }`,
		`import { a } from "x"; export function b() { return 1; } let b = a;`,
	} {
		wantEarly(t, s, false, impl.EaDup)
	}
}

func TestEarlyOfWhatDeclaresNothing(t *testing.T) {
	for _, s := range []string{
		`let a = 1; a = 2; print(a); throw a; print(a());`,
		`let a = 1; export { a }; export { b as q, a as r } from "x";`,
		`import { b as a } from "x"; let b = 1;`,
		`import * as n from "x"; let a = n.a; let b = n.b();`,
		`import { a } from "a"; export * from "a";`,
		`let default1 = 1; export default default1;`,
	} {
		wantEarly(t, s, false, impl.EaOk)
	}
	for _, kind := range []int{-1, 0, impl.StSet, impl.StPrint, impl.StThrow, impl.StFail, impl.StFail + 1} {
		wantEarlyOf(t, impl.Mod{Stmts: []impl.Stmt{{Kind: impl.StLet, Name: "a"}, {Kind: kind, Name: "a"}, {Kind: kind, Name: "a"}}}, impl.EaOk)
		wantEarlyOf(t, impl.Mod{Stmts: []impl.Stmt{{Kind: kind, Name: "a"}}, Exps: []impl.Exp{{Kind: impl.EpLocal, Local: "a"}}}, impl.EaUnbound)
	}
}

// exportsOf export a name, each in another way; what they need is declared under other names.
func exportsOf(name string, i int) []string {
	own := "q" + strconv.Itoa(i)
	ways := []string{`let ` + own + ` = 1; export { ` + own + ` as N };`, `export { N } from "x";`, `export { ` + own + ` as N } from "y";`, `export { default as N } from "x";`}
	if name == "default" {
		ways = append(ways, `export default 1;`)
	}
	for j := range ways {
		ways[j] = named(ways[j], name)
	}
	return ways
}

func TestEarlyOfANameExportedTwice(t *testing.T) {
	for _, name := range []string{"a", "default", "from"} {
		for _, first := range exportsOf(name, 1) {
			for _, second := range exportsOf(name, 2) {
				wantEarly(t, first+second, false, impl.EaExport)
				wantEarly(t, first+`print(1); let z = 1; export { z };`+second, false, impl.EaExport)
				wantEarly(t, first+first, false, map[bool]int{true: impl.EaDup, false: impl.EaExport}[strings.Contains(first, "let")])
			}
			for _, second := range exportsOf("b", 2) {
				wantEarly(t, first+second, false, impl.EaOk)
				wantEarly(t, first+`export * from "x"; export * from "x";`+second, false, impl.EaOk)
			}
		}
	}
	for _, s := range []string{
		`let a = 1; export { a, a };`,
		`let a = 1; let b = 2; export { a, b as a };`,
		`export let a = 1; export { a };`,
		`export function f() { return 1; } export { f } from "x";`,
		`export default 1; export default 2; export default 3;`,
		`let a = 1; export { a as default }; export default a;`,
		`import { a } from "x"; export { a }; export { a };`,
	} {
		wantEarly(t, s, false, impl.EaExport)
	}
}

func TestEarlyOfAnExportThatIsNotDeclared(t *testing.T) {
	for _, s := range []string{
		`export { q };`,
		`export { q as default };`,
		`let a = 1; export { a, q };`,
		`let a = 1; export { q as a };`,
		`import { q as a } from "x"; export { q };`,
		`import "q"; export { q };`,
		`export { q } from "x"; export { q as a };`,
		`q = 1; print(q); print(q()); export { q };`,
		`import * as n from "x"; print(n.q); export { q };`,
		`export default 1; export { default1 };`,
		`let q1 = 1; function Q() { return 1; } export { q };`,
	} {
		wantEarly(t, s, false, impl.EaUnbound)
	}
	for _, way := range declarations(false)[:6] {
		wantEarly(t, `export { a };`+named(way, "a"), false, impl.EaOk)
		wantEarly(t, named(way, "a")+`export { a as b };`, false, impl.EaOk)
		wantEarly(t, named(way, "a")+`export { b };`, false, impl.EaUnbound)
	}
}

func TestEarlyOfASpaceAlone(t *testing.T) {
	for _, use := range []string{
		`print(n);`, `print(n());`, `n = 1;`, `export { n };`, `export { n as default };`,
		`let a = 1 + n;`, `let a = n * 2;`, `let a = (1 - n) * 2;`, `throw 1 - n();`, `function f() { return n; }`, `export default n;`,
		`a = n();`, `n = n.a;`, `print(n.a + n);`, `print(n.a() + n());`,
	} {
		space := `import * as n from "x";`
		wantEarly(t, space+use, false, impl.EaSpace)
		wantEarly(t, use+space, false, impl.EaSpace)
		wantEarly(t, `import * as m from "x"; import { b } from "y";`+space+use, false, impl.EaSpace)
		// It is the Local that is a space, not what it comes from.
		wantEarly(t, `import n from "x"; import * as m from "x";`+strings.NewReplacer("n.a()", "m.a()", "n.a", "m.a").Replace(use), false, impl.EaOk)
	}
	wantEarly(t, `import * as n from "x"; export { n } from "x"; export { n as m, a as n1 } from "y"; print(n.n() + n.n);`, false, impl.EaOk)
	wantEarly(t, `import * as n from "x"; let a = 1; export { a as n };`, false, impl.EaOk)
}

func TestEarlyOfAMemberOfNoSpace(t *testing.T) {
	for _, use := range []string{`print(N.b);`, `print(N.b());`, `let z = 1 + N.default;`, `throw 2 * (1 - N.default());`, `function f() { return N.N; }`, `y = N.N();`} {
		for _, script := range inBoth {
			wantEarly(t, named(use, "a"), script, impl.EaMember)
			for _, way := range declarations(script) {
				want := impl.EaMember
				if strings.Contains(way, "*") {
					want = impl.EaOk
				}
				wantEarly(t, named(way, "a")+named(use, "a"), script, want)
				wantEarly(t, named(use, "a")+named(way, "a"), script, want)
				wantEarly(t, named(way, "b")+named(use, "a"), script, impl.EaMember)
			}
		}
		wantEarly(t, `import * as n from "x"; print(n.a);`+named(use, "a"), false, impl.EaMember)
		wantEarly(t, `import { n } from "x"; import * as m from "x";`+named(use, "n"), false, impl.EaMember)
	}
	wantEarly(t, `print(undef.a);`, false, impl.EaMember)
}

// TestEarlyTellsTheFirst takes each choice of codes that fit at once, in both orders of their items.
func TestEarlyTellsTheFirst(t *testing.T) {
	ways := [][]string{
		impl.EaDup:     {`let d = 1; function d() { return 1; }`, `import { d } from "x"; import d from "y";`, `import * as d from "x"; let d = 2;`, `export let d = 1; let d = 2;`},
		impl.EaExport:  {`export { e } from "x"; export { e } from "y";`, `export default 1; export default 2;`, `export let e = 1; export { e };`, `export function e() { return 1; } export { q as e } from "x";`},
		impl.EaUnbound: {`export { u };`, `export { u as v };`, `print(u); export { u as default1 };`},
		impl.EaSpace:   {`import * as s from "x"; print(s);`, `import * as s from "x"; s = 1;`, `import * as s from "x"; export { s };`, `import * as s from "x"; print(s.a + s());`},
		impl.EaMember:  {`print(m.a);`, `print(m.a());`, `let m = 1; throw m.m;`, `import m from "x"; m = m.default();`},
	}
	for choice := range 1 << impl.EaMember {
		for turn := range 4 {
			text, want := "", impl.EaOk
			for code := impl.EaMember; code >= impl.EaDup; code-- {
				if choice>>(code-1)&1 == 1 {
					text, want = text+ways[code][turn%len(ways[code])], code
				}
			}
			wantEarly(t, text, false, want)
			wantEarly(t, `let k = 1; export { k }; print(k); `+text, false, want)
		}
	}
	// One name by which two fit.
	for s, want := range map[string]int{
		`import * as n from "x"; let n = 1; print(n);`:                   impl.EaDup,
		`import * as n from "x"; import * as n from "y"; print(n.a);`:    impl.EaDup,
		`let a = 1; let a = 2; export { a }; export { a };`:              impl.EaDup,
		`export { a }; export { a };`:                                    impl.EaExport,
		`import * as n from "x"; export { n }; export { n };`:            impl.EaExport,
		`export { a }; print(a.b);`:                                      impl.EaUnbound,
		`import * as n from "x"; n = n; export { m as n };`:              impl.EaUnbound,
		`import * as n from "x"; print(n + m.n);`:                        impl.EaSpace,
		`import * as n from "x"; let m = 1; export { n }; print(m.n());`: impl.EaSpace,
	} {
		wantEarly(t, s, false, want)
	}
}

func TestEarlyOfTheDefaultOne(t *testing.T) {
	let, out := impl.Stmt{Kind: impl.StLet, Name: impl.DefaultName}, impl.Exp{Kind: impl.EpLocal, Name: "default", Local: impl.DefaultName}
	other := impl.Exp{Kind: impl.EpLocal, Name: "a", Local: impl.DefaultName}
	wantEarly(t, `export default 1;`, false, impl.EaOk)
	wantEarly(t, `export default 1; export default 2;`, false, impl.EaExport)
	wantEarlyOf(t, impl.Mod{Stmts: []impl.Stmt{let, let, let}, Exps: []impl.Exp{out}}, impl.EaOk)
	wantEarlyOf(t, impl.Mod{Stmts: []impl.Stmt{let, let}, Exps: []impl.Exp{out, other}}, impl.EaOk)
	wantEarlyOf(t, impl.Mod{Stmts: []impl.Stmt{let, let}, Exps: []impl.Exp{out, out}}, impl.EaExport)
	// It is declared, also where no StLet has it.
	wantEarlyOf(t, impl.Mod{Exps: []impl.Exp{out}}, impl.EaOk)
	wantEarlyOf(t, impl.Mod{Exps: []impl.Exp{other, {Kind: impl.EpLocal, Local: "default"}}}, impl.EaUnbound)
	// It is the StLets alone that do not declare it.
	fn, imp := impl.Stmt{Kind: impl.StFn, Name: impl.DefaultName}, impl.Imp{From: "a", Local: impl.DefaultName}
	wantEarlyOf(t, impl.Mod{Stmts: []impl.Stmt{let, fn}}, impl.EaOk)
	wantEarlyOf(t, impl.Mod{Stmts: []impl.Stmt{fn, fn}}, impl.EaDup)
	wantEarlyOf(t, impl.Mod{Stmts: []impl.Stmt{let, let}, Imps: []impl.Imp{imp}}, impl.EaOk)
	wantEarlyOf(t, impl.Mod{Stmts: []impl.Stmt{fn}, Imps: []impl.Imp{imp}}, impl.EaDup)
	wantEarlyOf(t, impl.Mod{Imps: []impl.Imp{imp, imp}}, impl.EaDup)
	wantEarlyOf(t, impl.Mod{Imps: []impl.Imp{{From: "*", Local: impl.DefaultName}}, Exps: []impl.Exp{out}}, impl.EaSpace)
}

func TestEarlyOfStars(t *testing.T) {
	star, a := impl.Exp{Kind: impl.EpStar, Name: "a", Local: "q"}, impl.Exp{Kind: impl.EpFrom, Name: "a", Local: "q"}
	space := []impl.Imp{{From: "*", Local: "q"}}
	wantEarlyOf(t, impl.Mod{Exps: []impl.Exp{star, star}}, impl.EaOk)
	wantEarlyOf(t, impl.Mod{Exps: []impl.Exp{star, a, star}}, impl.EaOk)
	wantEarlyOf(t, impl.Mod{Exps: []impl.Exp{star, a, a}}, impl.EaExport)
	// Neither its Local nor that of an EpFrom is asked.
	wantEarlyOf(t, impl.Mod{Exps: []impl.Exp{star, a}, Imps: space}, impl.EaOk)
}

func TestEarlyOfNoKind(t *testing.T) {
	space := []impl.Imp{{From: "*", Local: "n"}}
	for _, kind := range []int{-1, 0, impl.EpStar + 1, 1 << 40} {
		exp := impl.Exp{Kind: kind, Name: "a", Local: "n"}
		wantEarlyOf(t, impl.Mod{Exps: []impl.Exp{exp}}, impl.EaOk)
		wantEarlyOf(t, impl.Mod{Exps: []impl.Exp{exp}, Imps: space}, impl.EaOk)
		wantEarlyOf(t, impl.Mod{Exps: []impl.Exp{exp, exp}}, impl.EaExport)
		wantEarlyOf(t, impl.Mod{Exps: []impl.Exp{exp, {Kind: impl.EpFrom, Name: "a"}}}, impl.EaExport)
		wantEarlyOf(t, impl.Mod{Exps: []impl.Exp{exp, {Kind: impl.EpStar, Name: "a"}}}, impl.EaOk)
	}
	for _, kind := range []int{-1, 0, impl.StFail + 1, 1 << 40} {
		wantEarlyOf(t, impl.Mod{Stmts: []impl.Stmt{{Kind: kind, Name: "n"}, {Kind: kind, Name: "n"}}, Imps: space}, impl.EaOk)
	}
	for _, kind := range []int{-1, 0, impl.ExNum, impl.ExAdd, impl.ExSub, impl.ExMul, impl.ExMul + 1, 1 << 40} {
		wantEarlyOf(t, impl.Mod{Exprs: []impl.Expr{{Kind: kind, Name: "n", Field: "n"}}, Imps: space}, impl.EaOk)
		wantEarlyOf(t, impl.Mod{Exprs: []impl.Expr{{Kind: kind, Name: "m", Field: "n"}}, Imps: space}, impl.EaOk)
	}
}

func TestEarlyOfOddPrograms(t *testing.T) {
	wantEarlyOf(t, impl.Mod{}, impl.EaOk)
	wantEarlyOf(t, impl.Mod{Requests: []string{"x", "x"}, Imps: []impl.Imp{}, Exps: []impl.Exp{}, Stmts: []impl.Stmt{}, Exprs: []impl.Expr{}}, impl.EaOk)
	// A name without a byte is one as any other.
	wantEarlyOf(t, impl.Mod{Imps: []impl.Imp{{}}}, impl.EaOk)
	wantEarlyOf(t, impl.Mod{Imps: []impl.Imp{{}, {}}}, impl.EaDup)
	wantEarlyOf(t, impl.Mod{Imps: []impl.Imp{{}}, Stmts: []impl.Stmt{{Kind: impl.StLet}}}, impl.EaDup)
	wantEarlyOf(t, impl.Mod{Stmts: []impl.Stmt{{Kind: impl.StFn}, {Kind: impl.StLet}}}, impl.EaDup)
	wantEarlyOf(t, impl.Mod{Exps: []impl.Exp{{}}}, impl.EaOk)
	wantEarlyOf(t, impl.Mod{Exps: []impl.Exp{{}, {}}}, impl.EaExport)
	wantEarlyOf(t, impl.Mod{Exps: []impl.Exp{{Kind: impl.EpLocal}}}, impl.EaUnbound)
	wantEarlyOf(t, impl.Mod{Exps: []impl.Exp{{Kind: impl.EpLocal}}, Stmts: []impl.Stmt{{Kind: impl.StLet}}}, impl.EaOk)
	wantEarlyOf(t, impl.Mod{Exps: []impl.Exp{{Kind: impl.EpLocal}}, Imps: []impl.Imp{{From: "*"}}}, impl.EaSpace)
	wantEarlyOf(t, impl.Mod{Stmts: []impl.Stmt{{Kind: impl.StSet}}, Imps: []impl.Imp{{From: "*"}}}, impl.EaSpace)
	wantEarlyOf(t, impl.Mod{Exprs: []impl.Expr{{Kind: impl.ExName}}, Imps: []impl.Imp{{From: "*"}}}, impl.EaSpace)
	wantEarlyOf(t, impl.Mod{Exprs: []impl.Expr{{Kind: impl.ExMember}}, Imps: []impl.Imp{{From: "*"}}}, impl.EaOk)
	wantEarlyOf(t, impl.Mod{Exprs: []impl.Expr{{Kind: impl.ExMember}}, Imps: []impl.Imp{{}}}, impl.EaMember)
	wantEarlyOf(t, impl.Mod{Exprs: []impl.Expr{{Kind: impl.ExMemCall}}}, impl.EaMember)
	// An Expr counts, whoever asks for it; a Stmt's Expr and sides that are none do no harm.
	wantEarlyOf(t, impl.Mod{Exprs: []impl.Expr{{Kind: impl.ExNum}, {Kind: impl.ExMember, Name: "a"}}}, impl.EaMember)
	wantEarlyOf(t, impl.Mod{Exprs: []impl.Expr{{Kind: impl.ExAdd, L: -1, R: 1 << 40}}, Stmts: []impl.Stmt{{Kind: impl.StPrint, Expr: -7}, {Kind: impl.StLet, Name: "a", Expr: 9}}}, impl.EaOk)
	// A star is just the one byte.
	for _, from := range []string{"", "**", "* ", " *", "a", "default", "*default", "x*"} {
		wantEarlyOf(t, impl.Mod{Imps: []impl.Imp{{From: from, Local: "n"}}, Exprs: []impl.Expr{{Kind: impl.ExName, Name: "n"}}}, impl.EaOk)
		wantEarlyOf(t, impl.Mod{Imps: []impl.Imp{{From: from, Local: "n"}}, Exprs: []impl.Expr{{Kind: impl.ExMember, Name: "n"}}}, impl.EaMember)
	}
	// Names are told apart by all their bytes.
	for _, pair := range [][2]string{{"a", "a\x00"}, {"a", "A"}, {"", "\x00"}, {"\xff", "\xfe"}, {"é", "e\u0301"}, {"*default", "*default "}, {"let", "Let"}} {
		wantEarlyOf(t, impl.Mod{Stmts: []impl.Stmt{{Kind: impl.StFn, Name: pair[0]}, {Kind: impl.StFn, Name: pair[1]}}}, impl.EaOk)
		wantEarlyOf(t, impl.Mod{Stmts: []impl.Stmt{{Kind: impl.StFn, Name: pair[1]}, {Kind: impl.StFn, Name: pair[1]}}}, impl.EaDup)
		wantEarlyOf(t, impl.Mod{Exps: []impl.Exp{{Kind: impl.EpFrom, Name: pair[0]}, {Kind: impl.EpFrom, Name: pair[1]}}}, impl.EaOk)
		wantEarlyOf(t, impl.Mod{Imps: []impl.Imp{{From: "*", Local: pair[0]}}, Exprs: []impl.Expr{{Kind: impl.ExMember, Name: pair[1]}}}, impl.EaMember)
	}
}

// manyMod declares and exports n names of each kind, and asks for a member of each space.
func manyMod(n int) impl.Mod {
	m := impl.Mod{}
	for i := range n {
		name := strconv.Itoa(i)
		m.Imps = append(m.Imps, impl.Imp{From: "*", Local: "s" + name}, impl.Imp{From: "a", Local: "i" + name})
		m.Stmts = append(m.Stmts, impl.Stmt{Kind: impl.StLet, Name: "l" + name}, impl.Stmt{Kind: impl.StFn, Name: "f" + name})
		m.Exps = append(m.Exps, impl.Exp{Kind: impl.EpLocal, Name: "i" + name, Local: "i" + name}, impl.Exp{Kind: impl.EpLocal, Name: "l" + name, Local: "l" + name}, impl.Exp{Kind: impl.EpFrom, Name: "q" + name})
		m.Exprs = append(m.Exprs, impl.Expr{Kind: impl.ExMember, Name: "s" + name}, impl.Expr{Kind: impl.ExName, Name: "l" + name})
	}
	return m
}

func TestEarlyOfManyNames(t *testing.T) {
	for _, n := range []int{1, impl.MaxNames / 4, impl.MaxNames, 1 << 13} {
		m := manyMod(n)
		last := strconv.Itoa(n - 1)
		wantEarlyOf(t, m, impl.EaOk)
		for want, change := range map[int]func(m *impl.Mod){
			impl.EaDup:     func(m *impl.Mod) { m.Imps = append(m.Imps, impl.Imp{From: "a", Local: "f" + last}) },
			impl.EaExport:  func(m *impl.Mod) { m.Exps = append(m.Exps, impl.Exp{Kind: impl.EpFrom, Name: "i" + last}) },
			impl.EaUnbound: func(m *impl.Mod) { m.Exps = append(m.Exps, impl.Exp{Kind: impl.EpLocal, Local: "q" + last}) },
			impl.EaSpace:   func(m *impl.Mod) { m.Stmts = append(m.Stmts, impl.Stmt{Kind: impl.StSet, Name: "s" + last}) },
			impl.EaMember:  func(m *impl.Mod) { m.Exprs = append(m.Exprs, impl.Expr{Kind: impl.ExMemCall, Name: "i" + last}) },
		} {
			other := cloneMod(m)
			change(&other)
			wantEarlyOf(t, other, want)
		}
	}
}

func count(l []string, s string) int {
	n := 0
	for _, x := range l {
		if x == s {
			n++
		}
	}
	return n
}

func anyTwice(l []string) bool {
	return slices.ContainsFunc(l, func(s string) bool { return count(l, s) > 1 })
}

// declaredIn are the names that a program declares, as many times as it does.
func declaredIn(m impl.Mod) []string {
	names := []string{}
	for _, s := range m.Stmts {
		switch s.Kind {
		case impl.StLet:
			if s.Name != "*default" {
				names = append(names, s.Name)
			}
		case impl.StFn:
			names = append(names, s.Name)
		}
	}
	for _, i := range m.Imps {
		names = append(names, i.Local)
	}
	return names
}

func exportedBy(m impl.Mod) []string {
	names := []string{}
	for _, e := range m.Exps {
		if e.Kind == impl.EpStar {
			continue
		}
		names = append(names, e.Name)
	}
	return names
}

// plainEarly tells what fits, and then the first of it.
func plainEarly(m impl.Mod) int {
	declared, exports, spaces := declaredIn(m), exportedBy(m), []string{}
	for _, i := range m.Imps {
		if i.From == "*" {
			spaces = append(spaces, i.Local)
		}
	}
	fits := map[int]bool{impl.EaOk: true, impl.EaDup: anyTwice(declared), impl.EaExport: anyTwice(exports)}
	alone := []string{}
	for _, e := range m.Exps {
		if e.Kind == impl.EpLocal {
			alone = append(alone, e.Local)
			if count(append(slices.Clone(declared), "*default"), e.Local) == 0 {
				fits[impl.EaUnbound] = true
			}
		}
	}
	for _, s := range m.Stmts {
		if s.Kind == impl.StSet {
			alone = append(alone, s.Name)
		}
	}
	for _, x := range m.Exprs {
		switch x.Kind {
		case impl.ExName, impl.ExCall:
			alone = append(alone, x.Name)
		case impl.ExMember, impl.ExMemCall:
			if count(spaces, x.Name) == 0 {
				fits[impl.EaMember] = true
			}
		}
	}
	for _, s := range spaces {
		if count(alone, s) > 0 {
			fits[impl.EaSpace] = true
		}
	}
	for _, code := range []int{impl.EaDup, impl.EaExport, impl.EaUnbound, impl.EaSpace, impl.EaMember} {
		if fits[code] {
			return code
		}
	}
	return impl.EaOk
}

// partsOf are programs of one part each.
func partsOf(names []string) []impl.Mod {
	parts := []impl.Mod{}
	for _, name := range names {
		parts = append(parts, impl.Mod{Imps: []impl.Imp{{From: "*", Local: name}}}, impl.Mod{Imps: []impl.Imp{{From: name, Local: name}}})
		for kind := range impl.StFail + 2 {
			parts = append(parts, impl.Mod{Stmts: []impl.Stmt{{Kind: kind, Name: name}}})
		}
		for kind := range impl.ExMul + 2 {
			parts = append(parts, impl.Mod{Exprs: []impl.Expr{{Kind: kind, Name: name}}})
		}
		for kind := range impl.EpStar + 2 {
			for _, local := range names {
				parts = append(parts, impl.Mod{Exps: []impl.Exp{{Kind: kind, Name: name, Local: local}}})
			}
		}
	}
	return parts
}

func TestEarlyOfAllSmallPrograms(t *testing.T) {
	parts := partsOf([]string{"a", "", impl.DefaultName})
	for i, first := range parts {
		for j, second := range parts[i:] {
			two := joined(first, second)
			for _, third := range parts[i+j:] {
				m := joined(two, third)
				if got, want := impl.Early(m, false), plainEarly(m); got != want {
					t.Fatalf("Early(%s) = %d, not %d", dump(m), got, want)
				}
			}
		}
	}
}

// wantPromised asks for what the promise says of a program, and tells its code.
func wantPromised(t *testing.T, m impl.Mod, script bool) int {
	t.Helper()
	code := impl.Early(m, script)
	if want := plainEarly(m); code != want {
		t.Fatalf("Early(%s, %v) = %d, not %d", dump(m), script, code, want)
	}
	if code == impl.EaOk && (anyTwice(declaredIn(m)) || anyTwice(exportedBy(m))) {
		t.Fatalf("%s is without early errors, but a name of it stands twice", dump(m))
	}
	if impl.ModOk(m, script) {
		for _, text := range []string{impl.Print(m, script), bookish(m)} {
			if got := impl.Early(mustParse(t, text, script), script); got != code {
				t.Fatalf("Early of %q is %d, but of %s it is %d", text, got, dump(m), code)
			}
		}
	}
	return code
}

func TestEarlyOfManyPrograms(t *testing.T) {
	for _, script := range inBoth {
		k := newMaker(script)
		seen := map[int]int{}
		for range 20000 {
			m, text := k.make()
			code := wantPromised(t, m, script)
			if got := impl.Early(mustParse(t, text, script), script); got != code {
				t.Fatalf("Early of %q is %d, but of %s it is %d", text, got, dump(m), code)
			}
			seen[code]++
			for range 1 + k.Intn(4) {
				k.meddle(&m)
			}
			wantPromised(t, m, script)
		}
		for code := range impl.EaMember + 1 {
			if needsModule := code >= impl.EaExport && code <= impl.EaSpace; seen[code] < 100 && !(script && needsModule) {
				t.Errorf("%d programs have %d: that tells too little", seen[code], code)
			}
		}
	}
}

func TestEarlyOfTextsWrittenOtherwise(t *testing.T) {
	for _, script := range inBoth {
		for _, s := range someTexts(script) {
			if m, bad := impl.Parse(s, script); bad == -1 {
				wantEarly(t, s, script, plainEarly(m))
			}
		}
	}
}

func TestEarlyDoesNotWriteIntoPrograms(t *testing.T) {
	for _, script := range inBoth {
		k := newMaker(script)
		for range 2000 {
			m, _ := k.make()
			k.meddle(&m)
			spare := withSpare(m)
			first := impl.Early(spare, script)
			wantSpare(t, spare, m)
			if impl.Early(spare, script) != first {
				t.Fatalf("Early of %s is not the same twice", dump(m))
			}
		}
	}
}
