package tests

import (
	"fmt"
	"slices"
	"strings"
	"testing"
	"unsafe"

	"loop.example/g00777/impl"
)

func isSameMod(a, b impl.Mod) bool {
	return slices.Equal(a.Requests, b.Requests) && slices.Equal(a.Imps, b.Imps) && slices.Equal(a.Exps, b.Exps) &&
		slices.Equal(a.Stmts, b.Stmts) && slices.Equal(a.Exprs, b.Exprs)
}

// cloneMod has lists of its own.
func cloneMod(m impl.Mod) impl.Mod {
	return impl.Mod{Requests: slices.Clone(m.Requests), Imps: slices.Clone(m.Imps), Exps: slices.Clone(m.Exps), Stmts: slices.Clone(m.Stmts), Exprs: slices.Clone(m.Exprs)}
}

func wantMod(t *testing.T, s string, script bool, want impl.Mod) {
	t.Helper()
	got, bad := impl.Parse(s, script)
	if bad != -1 || !isSameMod(got, want) {
		t.Errorf("Parse(%.80q, %v) = %.400s, %d, not %.400s", s, script, fmt.Sprintf("%+v", got), bad, fmt.Sprintf("%+v", want))
	}
	if !impl.ModOk(want, script) {
		t.Errorf("ModOk is false of what %.80q means", s)
	}
}

func wantNoMod(t *testing.T, s string, script bool, place int) {
	t.Helper()
	if got, bad := impl.Parse(s, script); bad != place || !isSameMod(got, impl.Mod{}) {
		t.Errorf("Parse(%.80q, %v) = %.400s, %d, not nothing and %d", s, script, fmt.Sprintf("%+v", got), bad, place)
	}
}

// mustParse is for texts that other tests hold against their programs.
func mustParse(t *testing.T, s string, script bool) impl.Mod {
	t.Helper()
	m, bad := impl.Parse(s, script)
	if bad != -1 {
		t.Fatalf("Parse(%.80q, %v) tells %d", s, script, bad)
	}
	return m
}

func TestProgramConstants(t *testing.T) {
	limits := []int{impl.MaxExprs, impl.MaxStmts, impl.MaxNames, impl.MaxDepth}
	exprs := []int{impl.ExNum, impl.ExName, impl.ExCall, impl.ExMember, impl.ExMemCall, impl.ExAdd, impl.ExSub, impl.ExMul}
	stmts := []int{impl.StLet, impl.StFn, impl.StSet, impl.StPrint, impl.StThrow, impl.StFail}
	exps := []int{impl.EpLocal, impl.EpFrom, impl.EpStar}
	if !slices.Equal(limits, []int{300, 80, 40, 20}) || impl.DefaultName != "*default" {
		t.Errorf("the limits are %v, the name of the default one %q", limits, impl.DefaultName)
	}
	if !slices.Equal(exprs, []int{1, 2, 3, 4, 5, 6, 7, 8}) || !slices.Equal(stmts, []int{1, 2, 3, 4, 5, 6}) || !slices.Equal(exps, []int{1, 2, 3}) {
		t.Errorf("the kinds are %v, %v and %v", exprs, stmts, exps)
	}
}

// one is a program of one statement that has the number 1.
func one(kind int, name string) impl.Mod {
	return impl.Mod{Stmts: []impl.Stmt{{Kind: kind, Name: name}}, Exprs: []impl.Expr{{Kind: impl.ExNum, Num: 1}}}
}

// exported is m with Exps.
func exported(m impl.Mod, exps ...impl.Exp) impl.Mod {
	m.Exps = exps
	return m
}

func imported(spec string, imps ...impl.Imp) impl.Mod {
	for i := range imps {
		imps[i].Spec = spec
	}
	return impl.Mod{Requests: []string{spec}, Imps: imps}
}

func exportedFrom(spec string, exps ...impl.Exp) impl.Mod {
	for i := range exps {
		exps[i].Kind, exps[i].Spec = impl.EpFrom, spec
	}
	return impl.Mod{Requests: []string{spec}, Exps: exps}
}

// An item of the table with what it makes.
type item struct {
	text string
	want impl.Mod
}

// moduleItems are the items that stand in a module alone.
func moduleItems() []item {
	local := func(name, local string) impl.Exp {
		return impl.Exp{Kind: impl.EpLocal, Name: name, Local: local}
	}
	return []item{
		{`import "x";`, imported("x")},
		{`import "";`, imported("")},
		{`import { a } from "x";`, imported("x", impl.Imp{From: "a", Local: "a"})},
		{`import { a as b } from "x";`, imported("x", impl.Imp{From: "a", Local: "b"})},
		{`import { a, b as c, d } from "x";`, imported("x", impl.Imp{From: "a", Local: "a"}, impl.Imp{From: "b", Local: "c"}, impl.Imp{From: "d", Local: "d"})},
		{`import { default as d } from "x";`, imported("x", impl.Imp{From: "default", Local: "d"})},
		{`import { a, default as d, b } from "x";`, imported("x", impl.Imp{From: "a", Local: "a"}, impl.Imp{From: "default", Local: "d"}, impl.Imp{From: "b", Local: "b"})},
		{`import * as n from "x";`, imported("x", impl.Imp{From: "*", Local: "n"})},
		{`import d from "x";`, imported("x", impl.Imp{From: "default", Local: "d"})},
		{`export { a };`, exported(impl.Mod{}, local("a", "a"))},
		{`export { a as b };`, exported(impl.Mod{}, local("b", "a"))},
		{`export { a as default };`, exported(impl.Mod{}, local("default", "a"))},
		{`export { a as default, b, c as d };`, exported(impl.Mod{}, local("default", "a"), local("b", "b"), local("d", "c"))},
		{`export { a } from "x";`, exportedFrom("x", impl.Exp{Name: "a", Local: "a"})},
		{`export { a as b } from "x";`, exportedFrom("x", impl.Exp{Name: "b", Local: "a"})},
		{`export { default } from "x";`, exportedFrom("x", impl.Exp{Name: "default", Local: "default"})},
		{`export { default as a } from "x";`, exportedFrom("x", impl.Exp{Name: "a", Local: "default"})},
		{`export { default as default } from "x";`, exportedFrom("x", impl.Exp{Name: "default", Local: "default"})},
		{`export { a as default } from "x";`, exportedFrom("x", impl.Exp{Name: "default", Local: "a"})},
		{`export { a, default as b, default, c as default } from "x";`, exportedFrom("x", impl.Exp{Name: "a", Local: "a"}, impl.Exp{Name: "b", Local: "default"}, impl.Exp{Name: "default", Local: "default"}, impl.Exp{Name: "default", Local: "c"})},
		{`export * from "x";`, impl.Mod{Requests: []string{"x"}, Exps: []impl.Exp{{Kind: impl.EpStar, Spec: "x"}}}},
		{`export default 1;`, exported(one(impl.StLet, impl.DefaultName), local("default", impl.DefaultName))},
		{`export let a = 1;`, exported(one(impl.StLet, "a"), local("a", "a"))},
		{`export function f() { return 1; }`, exported(one(impl.StFn, "f"), local("f", "f"))},
	}
}

// bothItems are the items that stand in a module and in a script.
func bothItems() []item {
	return []item{
		{`let a = 1;`, one(impl.StLet, "a")},
		{`function f() { return 1; }`, one(impl.StFn, "f")},
		{`a = 1;`, one(impl.StSet, "a")},
		{`print(1);`, one(impl.StPrint, "")},
		{`throw 1;`, one(impl.StThrow, "")},
	}
}

func scriptItems() []item {
	return []item{{`fail 1;`, one(impl.StFail, "")}}
}

func itemsOf(script bool) []item {
	if script {
		return append(bothItems(), scriptItems()...)
	}
	return append(moduleItems(), bothItems()...)
}

func TestItemsAlone(t *testing.T) {
	for _, script := range inBoth {
		wantMod(t, "", script, impl.Mod{})
		wantMod(t, " // nothing\n", script, impl.Mod{})
		for _, c := range itemsOf(script) {
			wantMod(t, c.text, script, c.want)
			wantMod(t, "\n"+c.text+" // all of it", script, c.want)
		}
	}
	for _, c := range moduleItems() {
		wantNoMod(t, c.text, true, 0)
		wantNoMod(t, "a = 1; "+c.text, true, 7)
	}
	wantNoMod(t, "fail 1;", false, 5)
	wantNoMod(t, "a = 1; fail 1;", false, 12)
}

// joined is the program of the one text behind the other.
func joined(a, b impl.Mod) impl.Mod {
	m := cloneMod(a)
	for _, spec := range b.Requests {
		if !slices.Contains(m.Requests, spec) {
			m.Requests = append(m.Requests, spec)
		}
	}
	m.Imps = append(m.Imps, b.Imps...)
	isDefault := func(e impl.Exp) bool { return e.Local == impl.DefaultName }
	behind := slices.IndexFunc(m.Exps, isDefault)
	if behind < 0 {
		behind = len(m.Exps)
	}
	for _, e := range b.Exps {
		if isDefault(e) {
			m.Exps = append(m.Exps, e)
			continue
		}
		m.Exps = slices.Insert(m.Exps, behind, e)
		behind++
	}
	for _, s := range b.Stmts {
		s.Expr += len(a.Exprs)
		m.Stmts = append(m.Stmts, s)
	}
	for _, x := range b.Exprs {
		if x.Kind >= impl.ExAdd {
			x.L, x.R = x.L+len(a.Exprs), x.R+len(a.Exprs)
		}
		m.Exprs = append(m.Exprs, x)
	}
	return m
}

func TestItemsTogether(t *testing.T) {
	for _, script := range inBoth {
		items := itemsOf(script)
		for _, a := range items {
			for _, b := range items {
				two := joined(a.want, b.want)
				wantMod(t, a.text+b.text, script, two)
				for _, c := range items {
					wantMod(t, a.text+"\n"+b.text+"\n"+c.text, script, joined(two, c.want))
				}
			}
		}
		all, text := impl.Mod{}, ""
		for _, c := range items {
			all, text = joined(all, c.want), text+c.text
		}
		wantMod(t, text, script, all)
	}
}

func TestExportDefaultStandsBehindAllOthers(t *testing.T) {
	local := func(name, local string) impl.Exp {
		return impl.Exp{Kind: impl.EpLocal, Name: name, Local: local}
	}
	num := impl.Expr{Kind: impl.ExNum, Num: 1}
	wantMod(t, `export default 1; export let a = 1; export { b, a as default }; export * from "x"; export default 1; export function f() { return 1; }`, false, impl.Mod{
		Requests: []string{"x"},
		Exps:     []impl.Exp{local("a", "a"), local("b", "b"), local("default", "a"), {Kind: impl.EpStar, Spec: "x"}, local("f", "f"), local("default", impl.DefaultName), local("default", impl.DefaultName)},
		Stmts:    []impl.Stmt{{Kind: impl.StLet, Name: impl.DefaultName}, {Kind: impl.StLet, Name: "a", Expr: 1}, {Kind: impl.StLet, Name: impl.DefaultName, Expr: 2}, {Kind: impl.StFn, Name: "f", Expr: 3}},
		Exprs:    []impl.Expr{num, num, num, num},
	})
}

func TestRequestsStandOnce(t *testing.T) {
	m := mustParse(t, `export * from "b"; import "a"; import x from "b"; import "c"; export { y } from "a"; import * as n from "c"; import { z } from "d"; import "b"; import "A";`, false)
	if !slices.Equal(m.Requests, []string{"b", "a", "c", "d", "A"}) {
		t.Errorf("the requests are %q", m.Requests)
	}
	if !slices.Equal(m.Imps, []impl.Imp{{Spec: "b", From: "default", Local: "x"}, {Spec: "c", From: "*", Local: "n"}, {Spec: "d", From: "z", Local: "z"}}) {
		t.Errorf("the Imps are %v", m.Imps)
	}
}

func TestWordsAreNoPlainNames(t *testing.T) {
	words := []string{"import", "export", "default", "let", "function", "return", "print", "throw"}
	places := []string{"let ", "function ", "print(", "a = ", "a = n.", "a = 1 + ", "throw ", "function f() { return "}
	inModules := []string{"export let ", "export function ", "import { a as ", "import * as ", "import ", "import { a, b as ", "export default "}
	for _, w := range words {
		for _, script := range inBoth {
			for _, ahead := range places {
				// Behind a point default may stand: the text ends too early then.
				if w == "default" && strings.HasSuffix(ahead, ".") {
					wantNoMod(t, ahead+w, script, len(ahead)+len(w))
					continue
				}
				wantNoMod(t, ahead+w+" = 1;", script, len(ahead))
			}
		}
		for _, ahead := range inModules {
			wantNoMod(t, ahead+w+" from \"x\";", false, len(ahead))
		}
		for _, ahead := range []string{"import { ", "import { a, ", "export { ", "export { a as ", "export { a, "} {
			if w != "default" {
				wantNoMod(t, ahead+w+" } from \"x\";", false, len(ahead))
			}
		}
	}
	for _, w := range []string{"fail", "undef"} {
		for _, text := range []string{"let @ = 1;", "function @() { return 1; }", "@ = 1;", "a = n.@;", "a = n.@();", "a = @.x;", "throw @.x();"} {
			s := strings.ReplaceAll(text, "@", w)
			mustParse(t, s, false)
			place := strings.IndexByte(text, '@')
			switch {
			case w == "fail" && text == "@ = 1;":
				place = len("fail ")
			case w == "undef" && strings.Contains(text, "@."):
				place = strings.IndexByte(s, '.')
			}
			wantNoMod(t, s, true, place)
		}
	}
	// Names that a word only begins, or that differ from one in a letter, are plain.
	for _, name := range []string{"imports", "Let", "LET", "_let", "let_", "let1", "de", "defaults", "returned", "undefined", "fails", "failed", "as", "from", "star"} {
		for _, script := range inBoth {
			wantMod(t, "let "+name+" = "+name+"; "+name+" = "+name+"."+name+"();", script, impl.Mod{
				Stmts: []impl.Stmt{{Kind: impl.StLet, Name: name}, {Kind: impl.StSet, Name: name, Expr: 1}},
				Exprs: []impl.Expr{{Kind: impl.ExName, Name: name}, {Kind: impl.ExMemCall, Name: name, Field: name}},
			})
		}
	}
}

func TestAsAndFromArePlain(t *testing.T) {
	for _, c := range []item{
		{`import as from "x";`, imported("x", impl.Imp{From: "default", Local: "as"})},
		{`import from from "x";`, imported("x", impl.Imp{From: "default", Local: "from"})},
		{`import * as as from "x";`, imported("x", impl.Imp{From: "*", Local: "as"})},
		{`import * as from from "x";`, imported("x", impl.Imp{From: "*", Local: "from"})},
		{`import { as } from "x";`, imported("x", impl.Imp{From: "as", Local: "as"})},
		{`import { as as as } from "x";`, imported("x", impl.Imp{From: "as", Local: "as"})},
		{`import { as as from, from as as, from } from "x";`, imported("x", impl.Imp{From: "as", Local: "from"}, impl.Imp{From: "from", Local: "as"}, impl.Imp{From: "from", Local: "from"})},
		{`import { default as as } from "x";`, imported("x", impl.Imp{From: "default", Local: "as"})},
		{`export { as as as } from "x";`, exportedFrom("x", impl.Exp{Name: "as", Local: "as"})},
		{`export { from as as, as } from "x";`, exportedFrom("x", impl.Exp{Name: "as", Local: "from"}, impl.Exp{Name: "as", Local: "as"})},
		{`export { default as from } from "x";`, exportedFrom("x", impl.Exp{Name: "from", Local: "default"})},
		{`export { from };`, exported(impl.Mod{}, impl.Exp{Kind: impl.EpLocal, Name: "from", Local: "from"})},
		{`export let from = 1;`, exported(one(impl.StLet, "from"), impl.Exp{Kind: impl.EpLocal, Name: "from", Local: "from"})},
	} {
		wantMod(t, c.text, false, c.want)
	}
	for _, c := range []struct {
		s     string
		place int
	}{
		{`import { a at b } from "x";`, 11}, {`import * at n from "x";`, 9}, {`import { a } form "x";`, 13}, {`import d form "x";`, 9}, {`import * as n "x";`, 14}, {`import { a as } from "x";`, 14},
		{`import "as" from "x";`, 12}, {`import { a "as" b } from "x";`, 11}, {`import d "from" "x";`, 9}, {`export { a } form "x";`, 13}, {`export { a as as as } from "x";`, 17}, {`export { a } as "x";`, 13}, {`export * "from" "x";`, 9}, {`export * as n from "x";`, 9},
	} {
		wantNoMod(t, c.s, false, c.place)
	}
}

func TestWhereDefaultStands(t *testing.T) {
	for _, c := range []struct {
		s     string
		place int
	}{
		{`import { default } from "x";`, 17}, {`import { default, a } from "x";`, 16}, {`import { a, default } from "x";`, 20}, {`import { default as default } from "x";`, 20}, {`import { a as default } from "x";`, 14},
		{`import default from "x";`, 7}, {`import * as default from "x";`, 12}, {`import * as n from default;`, 19},
		{`export { default };`, 18}, {`export { default as a };`, 23}, {`export { a, default };`, 21}, {`export { default, a };`, 21}, {`export { a, default as b, c };`, 29}, {`export { default as default };`, 29},
		{`export { default }`, 18}, {`export { default } "x";`, 19}, {`export { default } let a = 1;`, 19},
		{`export * as default from "x";`, 9}, {`export default;`, 14}, {`export default default;`, 15}, {`export default let a = 1;`, 15}, {`export let default = 1;`, 11}, {`export function default() { return 1; }`, 16}, {`export default = 1;`, 15}, {`export default function f() { return 1; }`, 15},
		{`default = 1;`, 0}, {`default;`, 0}, {`let default = 1;`, 4}, {`function default() { return 1; }`, 9}, {`print(default);`, 6}, {`print(default.a);`, 6}, {`print(default());`, 6}, {`a = 1 * default;`, 8}, {`a = n.default.default;`, 13},
	} {
		wantNoMod(t, c.s, false, c.place)
	}
	for _, script := range inBoth {
		wantMod(t, "print(n.default);throw n . default ( ) * 2;", script, impl.Mod{
			Stmts: []impl.Stmt{{Kind: impl.StPrint}, {Kind: impl.StThrow, Expr: 3}},
			Exprs: []impl.Expr{{Kind: impl.ExMember, Name: "n", Field: "default"}, {Kind: impl.ExMemCall, Name: "n", Field: "default"}, {Kind: impl.ExNum, Num: 2}, {Kind: impl.ExMul, L: 1, R: 2}},
		})
	}
}

// wantExpr asks for the Exprs of an expression wherever one may stand.
func wantExpr(t *testing.T, text string, script bool, want ...impl.Expr) {
	t.Helper()
	last := len(want) - 1
	stmt := func(kind int, name string) impl.Mod {
		return impl.Mod{Stmts: []impl.Stmt{{Kind: kind, Name: name, Expr: last}}, Exprs: want}
	}
	wantMod(t, "let a = "+text+";", script, stmt(impl.StLet, "a"))
	wantMod(t, "a = "+text+";", script, stmt(impl.StSet, "a"))
	wantMod(t, "print("+text+");", script, stmt(impl.StPrint, ""))
	wantMod(t, "throw "+text+";", script, stmt(impl.StThrow, ""))
	wantMod(t, "function f() { return "+text+"; }", script, stmt(impl.StFn, "f"))
	if script {
		wantMod(t, "fail "+text+";", script, stmt(impl.StFail, ""))
		return
	}
	wantMod(t, "export default "+text+";", script, exported(stmt(impl.StLet, impl.DefaultName), impl.Exp{Kind: impl.EpLocal, Name: "default", Local: impl.DefaultName}))
	wantMod(t, "export let a = "+text+";", script, exported(stmt(impl.StLet, "a"), impl.Exp{Kind: impl.EpLocal, Name: "a", Local: "a"}))
}

func TestExpressions(t *testing.T) {
	n := func(n int) impl.Expr { return impl.Expr{Kind: impl.ExNum, Num: n} }
	two := func(kind, l, r int) impl.Expr { return impl.Expr{Kind: kind, L: l, R: r} }
	add, sub, mul := impl.ExAdd, impl.ExSub, impl.ExMul
	for _, script := range inBoth {
		for _, c := range []struct {
			text string
			want []impl.Expr
		}{
			{"0", []impl.Expr{n(0)}}, {"1000000", []impl.Expr{n(impl.MaxNum)}},
			{"x", []impl.Expr{{Kind: impl.ExName, Name: "x"}}}, {"x()", []impl.Expr{{Kind: impl.ExCall, Name: "x"}}},
			{"x.y", []impl.Expr{{Kind: impl.ExMember, Name: "x", Field: "y"}}}, {"x.y()", []impl.Expr{{Kind: impl.ExMemCall, Name: "x", Field: "y"}}},
			{"1+2", []impl.Expr{n(1), n(2), two(add, 0, 1)}}, {"1-2", []impl.Expr{n(1), n(2), two(sub, 0, 1)}}, {"1*2", []impl.Expr{n(1), n(2), two(mul, 0, 1)}},
			// From the left, and products first.
			{"1-2-3", []impl.Expr{n(1), n(2), two(sub, 0, 1), n(3), two(sub, 2, 3)}}, {"1-2+3", []impl.Expr{n(1), n(2), two(sub, 0, 1), n(3), two(add, 2, 3)}}, {"1+2-3", []impl.Expr{n(1), n(2), two(add, 0, 1), n(3), two(sub, 2, 3)}},
			{"1*2*3", []impl.Expr{n(1), n(2), two(mul, 0, 1), n(3), two(mul, 2, 3)}},
			{"1+2*3", []impl.Expr{n(1), n(2), n(3), two(mul, 1, 2), two(add, 0, 3)}}, {"1*2-3", []impl.Expr{n(1), n(2), two(mul, 0, 1), n(3), two(sub, 2, 3)}}, {"1*2+3*4", []impl.Expr{n(1), n(2), two(mul, 0, 1), n(3), n(4), two(mul, 3, 4), two(add, 2, 5)}},
			// With ( ).
			{"(1)", []impl.Expr{n(1)}}, {"((1))", []impl.Expr{n(1)}}, {"(x)", []impl.Expr{{Kind: impl.ExName, Name: "x"}}}, {"(x())", []impl.Expr{{Kind: impl.ExCall, Name: "x"}}},
			{"1-(2-3)", []impl.Expr{n(1), n(2), n(3), two(sub, 1, 2), two(sub, 0, 3)}}, {"(1-2)-3", []impl.Expr{n(1), n(2), two(sub, 0, 1), n(3), two(sub, 2, 3)}}, {"1+(2+3)", []impl.Expr{n(1), n(2), n(3), two(add, 1, 2), two(add, 0, 3)}},
			{"(1+2)*3", []impl.Expr{n(1), n(2), two(add, 0, 1), n(3), two(mul, 2, 3)}}, {"1*(2-3)", []impl.Expr{n(1), n(2), n(3), two(sub, 1, 2), two(mul, 0, 3)}}, {"1*(2*3)", []impl.Expr{n(1), n(2), n(3), two(mul, 1, 2), two(mul, 0, 3)}},
			{"(1*2)+(3)", []impl.Expr{n(1), n(2), two(mul, 0, 1), n(3), two(add, 2, 3)}}, {"(1-2)*(3+4)", []impl.Expr{n(1), n(2), two(sub, 0, 1), n(3), n(4), two(add, 3, 4), two(mul, 2, 5)}}, {"((1-2)-(3*4))", []impl.Expr{n(1), n(2), two(sub, 0, 1), n(3), n(4), two(mul, 3, 4), two(sub, 2, 5)}},
			{"x.y()*(x()-y)", []impl.Expr{{Kind: impl.ExMemCall, Name: "x", Field: "y"}, {Kind: impl.ExCall, Name: "x"}, {Kind: impl.ExName, Name: "y"}, two(sub, 1, 2), two(mul, 0, 3)}},
		} {
			wantExpr(t, c.text, script, c.want...)
		}
		wantExpr(t, "undef", script, impl.Expr{Kind: impl.ExName, Name: "undef"})
		wantExpr(t, "undef()-1", script, impl.Expr{Kind: impl.ExCall, Name: "undef"}, n(1), two(sub, 0, 1))
	}
	wantExpr(t, "undef.undef()", false, impl.Expr{Kind: impl.ExMemCall, Name: "undef", Field: "undef"})
	wantExpr(t, "fail.x", false, impl.Expr{Kind: impl.ExMember, Name: "fail", Field: "x"})
	wantExpr(t, "$a.b$", true, impl.Expr{Kind: impl.ExMember, Name: "$a", Field: "b$"})
	wantNoMod(t, "print(undef.x);", true, 11)
	wantNoMod(t, "print(x.undef);", true, 8)
	wantNoMod(t, "print(fail());", true, 6)
	wantNoMod(t, "print(x$);", false, 7)
}

func TestWhereLexSaysAPlace(t *testing.T) {
	for _, script := range inBoth {
		for _, c := range []struct {
			s     string
			place int
		}{
			{"@", 0}, {" @", 1}, {"let a = 1; @", 11}, {"let a = 01;", 8}, {"let a = 1000001;", 8}, {"print(1a);", 6}, {"import \"x;", 7}, {"let a = 1; /", 11}, {"a = #;", 4},
			// Lex is asked first, wherever a token cannot stand.
			{"let let = 1; @", 13}, {"import; \"", 8}, {"; ; ; !", 6}, {"let a = @ let", 8},
		} {
			wantNoMod(t, c.s, script, c.place)
		}
		// More tokens than there may be are told by Lex, too: 4000 signs, and one more.
		wantNoMod(t, strings.Repeat(";", impl.MaxTokens), script, 0)
		wantNoMod(t, strings.Repeat(";", impl.MaxTokens+1), script, impl.MaxTokens)
	}
	wantNoMod(t, "let $ = 1;", false, 4)
	mustParse(t, "let $ = 1;", true)
}

func TestParentheses(t *testing.T) {
	deep := strings.Repeat("(", impl.MaxDepth)
	back := strings.Repeat(")", impl.MaxDepth)
	for _, script := range inBoth {
		for _, part := range []string{"1", "x", "f()", "n.x", "n.f()", "f() * f() - f()"} {
			for _, c := range [][2]string{{"print(", ");"}, {"a = ", ";"}, {"let a = ", ";"}, {"throw ", ";"}, {"function f() { return ", "; }"}, {"a = 1 - ", ";"}, {"a = 1 * ", " * 2;"}, {"a = (1) + (2) * ((3)) - ", ";"}} {
				flat := mustParse(t, c[0]+"("+part+")"+c[1], script)
				wantMod(t, c[0]+deep+part+back+c[1], script, flat)
				wantNoMod(t, c[0]+deep+"("+part+")"+back+c[1], script, len(c[0])+len(deep))
				wantNoMod(t, c[0]+deep+"(", script, len(c[0])+len(deep))
			}
		}
		// What is closed again does not count.
		ones := strings.Repeat(deep+"1"+back+" + ", 40) + "1"
		mustParse(t, "print("+ones+");", script)
		mustParse(t, "print("+deep[1:]+"(1) * (2) - (f())"+back[1:]+");", script)
		wantNoMod(t, "print("+deep[1:]+"(1) * ((2)) - 3"+back[1:]+");", script, 6+19+7)
		wantNoMod(t, "print("+deep+"1"+back[1:]+");", script, 6+20+1+19+1)
		wantNoMod(t, "print("+deep+"1"+back+"));", script, 6+20+1+20+1)
	}
}

// listOf are n names of a list, from the number first on.
func listOf(first, n int, form string) string {
	names := []string{}
	for i := range n {
		names = append(names, fmt.Sprintf(form, first+i))
	}
	return strings.Join(names, ", ")
}

// wantFull asks that ahead is taken whole, and that what comes behind is one too many, at the place in it.
func wantFull(t *testing.T, ahead, behind string, script bool, place int) {
	t.Helper()
	m := mustParse(t, ahead, script)
	if !impl.ModOk(m, script) {
		t.Errorf("ModOk is false of what %.80q means", ahead)
	}
	wantNoMod(t, ahead+behind, script, len(ahead)+place)
	// Nothing that comes later counts.
	wantNoMod(t, ahead+behind+" let let", script, len(ahead)+place)
}

func TestAtMaxExprs(t *testing.T) {
	for _, script := range inBoth {
		// 149 numbers and 148 sums, then 3 more: just as many as there may be.
		sum := strings.Repeat("1 + ", 148) + "1"
		ahead := "print(" + sum + "); a = 1; a = 2; a = 3; "
		if m := mustParse(t, ahead, script); len(m.Exprs) != impl.MaxExprs {
			t.Fatalf("there are %d Exprs", len(m.Exprs))
		}
		for _, c := range []struct {
			behind string
			place  int
		}{
			{"b = 12;", 4}, {"b = x;", 4}, {"b = x();", 6}, {"b = x . y;", 8}, {"b = x.y ( ) ;", 10}, {"b = ((12));", 6}, {"b = (x());", 7}, {"b = 12 * 3;", 4}, {"throw x", 6}, {"print(x(", -1},
			{"print(7);", 6}, {"function f() { return 12; }", 22}, {"b = undef;", 4},
		} {
			if c.place < 0 {
				// The Expr does not end: what cannot stand there is told first.
				wantNoMod(t, ahead+c.behind, script, len(ahead+c.behind))
				continue
			}
			wantFull(t, ahead, c.behind, script, c.place)
		}
		wantNoMod(t, ahead+"b = x(1);", script, len(ahead)+6)
		wantNoMod(t, ahead+"b = x.1;", script, len(ahead)+6)
		// One of two sides is the last one there may be: the sum or product is one too many, with its last token.
		ahead = "print(" + sum + "); a = 1; "
		for _, c := range []struct {
			behind string
			place  int
		}{{"b = 1 + 23;", 8}, {"b = 1 - 23;", 8}, {"b = 1 * 23;", 8}, {"b = 1 * x.y();", 12}, {"b = 1 + (2);", 10}, {"b = 1 * ((2)) ;", 12}, {"b = (1 + 2);", 9}, {"b = 1 + 2 * 3;", 12}, {"b = 1 + (2 * 3);", 13}, {"b = 1 * 2 + 3;", 8}} {
			wantFull(t, ahead, c.behind, script, c.place)
		}
	}
	wantFull(t, "print("+strings.Repeat("1 + ", 148)+"1); a = 1; a = 2; a = 3; ", "export default 12;", false, 15)
}

func TestAtMaxStmts(t *testing.T) {
	for _, script := range inBoth {
		for _, c := range itemsOf(script) {
			if len(c.want.Stmts) == 0 {
				continue
			}
			// Nothing is too many but the Stmts.
			ahead := strings.Repeat("a = 1;", impl.MaxStmts)
			wantFull(t, ahead, c.text, script, len(c.text)-1)
			mustParse(t, ahead[len("a = 1;"):]+c.text, script)
			// The last token is where the item ends, not where its expression does.
			wantNoMod(t, ahead+c.text[:len(c.text)-1], script, len(ahead+c.text)-1)
			wantNoMod(t, ahead+c.text[:len(c.text)-1]+"=", script, len(ahead+c.text)-1)
		}
	}
	mustParse(t, strings.Repeat("a = 1;", impl.MaxStmts)+"import \"x\"; export { a };", false)
}

func TestAtMaxRequests(t *testing.T) {
	ahead := ""
	for i := range impl.MaxNames {
		ahead += fmt.Sprintf("import \"%d\"; ", i)
	}
	for _, c := range []struct {
		behind string
		place  int
	}{
		{`import "x";`, 7}, {`import { a } from "x";`, 18}, {`import { a, b as c } from "x";`, 26}, {`import * as n from "x";`, 19}, {`import d from "x";`, 14}, {`export { a } from "x";`, 18}, {`export { default } from "x";`, 24}, {`export * from "x";`, 14},
	} {
		wantFull(t, ahead, c.behind, false, c.place)
		// A request is taken with its S, whatever comes behind that.
		wantNoMod(t, ahead+strings.TrimSuffix(c.behind, ";"), false, len(ahead)+c.place)
		wantNoMod(t, ahead+strings.TrimSuffix(c.behind, ";")+"=", false, len(ahead)+c.place)
		// One that stands there already is none too many.
		mustParse(t, ahead+strings.ReplaceAll(c.behind, `"x"`, `"39"`), false)
	}
}

func TestAtMaxImps(t *testing.T) {
	lists := "import { " + listOf(0, 20, "a%d") + " } from \"x\"; import { " + listOf(0, 20, "b%d as c%[1]d") + " } from \"x\"; "
	singles := strings.Repeat("import d from \"x\"; import * as n from \"x\"; ", 20)
	for _, ahead := range []string{lists, singles} {
		for _, c := range []struct {
			behind string
			place  int
		}{
			{`import { a } from "x";`, 21}, {`import { a, b as c, d } from "x";`, 32}, {`import * as n from "x";`, 22}, {`import d from "x" ;`, 18},
		} {
			wantFull(t, ahead, c.behind, false, c.place)
			wantNoMod(t, ahead+strings.TrimSuffix(c.behind, ";")+"=", false, len(ahead)+c.place)
		}
		mustParse(t, ahead+"import \"x\"; import \"y\"; export * from \"z\";", false)
	}
	wantNoMod(t, "import { "+listOf(0, 41, "a%d")+" } from \"x\" ;", false, len("import { "+listOf(0, 41, "a%d")+" } from \"x\" "))
	mustParse(t, "import { "+listOf(0, 40, "a%d")+" } from \"x\" ;", false)
	// With 39 of them the second one of a list is too many, at the same place.
	wantFull(t, "import { "+listOf(0, 39, "a%d")+" } from \"x\";", "import { a, b } from \"x\";", false, 24)
}

func TestAtMaxExps(t *testing.T) {
	behinds := []struct {
		behind string
		place  int
	}{
		{`export { a };`, 12}, {`export { a as b, c } ;`, 21}, {`export { a } from "x";`, 21}, {`export { default, b, c } from "x";`, 33}, {`export * from "x";`, 17}, {`export default 12 ;`, 18}, {`export let a = 1 * 2;`, 20}, {`export function f() { return 1; }`, 32},
	}
	for _, ahead := range []string{
		"export { " + listOf(0, 40, "a%d") + " };",
		"export { " + listOf(0, 40, "a%d as b") + " } from \"x\";",
		strings.Repeat("export * from \"x\";", 40),
		strings.Repeat("export default 1;", 40),
		strings.Repeat("export let a = 1;", 20) + strings.Repeat("export function f() { return 1; }", 20),
		"export default 1; export { " + listOf(0, 39, "a%d") + " };",
		"export { " + listOf(0, 39, "a%d") + " }; export default 1;",
	} {
		for _, c := range behinds {
			wantFull(t, ahead, c.behind, false, c.place)
			wantNoMod(t, ahead+c.behind[:len(c.behind)-1]+"=", false, len(ahead)+c.place)
		}
		mustParse(t, ahead+"import \"x\"; import a from \"y\"; let a = 1;", false)
	}
	wantNoMod(t, "export { "+listOf(0, 41, "a%d")+" } ;", false, len("export { "+listOf(0, 41, "a%d")+" } "))
	wantFull(t, "export { "+listOf(0, 39, "a%d")+" };", "export { a, b };", false, 15)
	// Requests are taken ahead of the Exps that ask for them.
	requests := ""
	for i := range impl.MaxNames {
		requests += fmt.Sprintf("import \"%d\"; ", i)
	}
	wantFull(t, requests+"export { "+listOf(0, 40, "a%d")+" };", "export { a } from \"x\";", false, 18)
}

func TestProgramsAreNewMemory(t *testing.T) {
	s := strings.Clone(`export * from "./star"; import oo from "./oo"; export { pp } from "./pp"; import { aa as bb, cc } from "./spec"; export { aa as dd } from "./spec"; export * from "./spec"; export let ee = nn.ff() + gg; export function hh() { return ii.jj; } kk = ll();`)
	first := mustParse(t, s, false)
	from := uintptr(unsafe.Pointer(unsafe.StringData(s)))
	lists := textsOfLists(first)
	seen := map[uintptr]int{}
	for i, list := range lists {
		for _, text := range list {
			p := uintptr(unsafe.Pointer(unsafe.StringData(text)))
			if p >= from && p < from+uintptr(len(s)) {
				t.Errorf("%q shares the memory of the text", text)
			}
			if j, found := seen[p]; found && j != i {
				t.Errorf("%q stands in two lists", text)
			}
			seen[p] = i
		}
	}
	second := mustParse(t, s, false)
	before := cloneMod(second)
	clear(first.Requests)
	clear(first.Imps)
	clear(first.Exps)
	clear(first.Stmts)
	clear(first.Exprs)
	if !isSameMod(second, before) || !isSameMod(mustParse(t, s, false), before) {
		t.Errorf("two answers share memory: %+v", second)
	}
}

// textsOfLists are the texts that stand in each list of a program.
func textsOfLists(m impl.Mod) [][]string {
	lists := make([][]string, 5)
	add := func(i int, texts ...string) {
		for _, text := range texts {
			if text != "" {
				lists[i] = append(lists[i], text)
			}
		}
	}
	add(0, m.Requests...)
	for _, imp := range m.Imps {
		add(1, imp.Spec, imp.From, imp.Local)
	}
	for _, exp := range m.Exps {
		add(2, exp.Name, exp.Local, exp.Spec)
	}
	for _, stmt := range m.Stmts {
		add(3, stmt.Name)
	}
	for _, x := range m.Exprs {
		add(4, x.Name, x.Field)
	}
	return lists
}
