package tests

import (
	"fmt"
	"math"
	"slices"
	"strings"
	"testing"
	"unsafe"

	"loop.example/g00777/impl"
)

func dump(m impl.Mod) string {
	return fmt.Sprintf("%+v", m)
}

// wantPrinted asks that Print of m is want, and, since m is a program, that want means m.
func wantPrinted(t *testing.T, m impl.Mod, script bool, want string) {
	t.Helper()
	got := impl.Print(m, script)
	if got != want {
		t.Errorf("Print(%.300s, %v) = %q, not %q", dump(m), script, got, want)
		return
	}
	again, bad := impl.Parse(got, script)
	if bad != -1 || !isSameMod(again, m) {
		t.Errorf("%q is printed of %.300s, but means %.300s, %d", got, dump(m), dump(again), bad)
		return
	}
	if second := impl.Print(again, script); second != got {
		t.Errorf("%q is printed of what %q means", second, got)
	}
	if !impl.ModOk(m, script) {
		t.Errorf("ModOk is false of what %q means", got)
	}
}

// wantWritten asks that the program of the text s is printed as want.
func wantWritten(t *testing.T, s string, script bool, want string) {
	t.Helper()
	wantPrinted(t, mustParse(t, s, script), script, want)
}

// lines are what an item is printed as, by the list that they come of.
type lines struct {
	text     string
	requests []string
	imps     []string
	exps     []string
	stmts    []string
}

// bothLines are of the items that stand in a module and in a script.
func bothLines() []lines {
	return []lines{
		{text: `let a=1;`, stmts: []string{`let a = 1;`}},
		{text: `function f ( ){return 2;}`, stmts: []string{`function f() { return 2; }`}},
		{text: `a  =  3 ;`, stmts: []string{`a = 3;`}},
		{text: `print ( 4 ) ;`, stmts: []string{`print(4);`}},
		{text: `throw(5);`, stmts: []string{`throw 5;`}},
		{text: `from=as;`, stmts: []string{`from = as;`}},
	}
}

func linesOf(script bool) []lines {
	if script {
		return append(bothLines(), lines{text: `fail(6);`, stmts: []string{`fail 6;`}}, lines{text: `$=$a$1;`, stmts: []string{`$ = $a$1;`}})
	}
	x, y := []string{`import "x";`}, []string{`import "./y z/..";`}
	return append(bothLines(),
		lines{text: `import"x";`, requests: x},
		lines{text: `import "" ;`, requests: []string{`import "";`}},
		lines{text: `import{a}from"x";`, requests: x, imps: []string{`import { a } from "x";`}},
		lines{text: `import{a as a}from"x";`, requests: x, imps: []string{`import { a } from "x";`}},
		lines{text: `import{b,c as d,default as e}from"./y z/..";`, requests: y, imps: []string{`import { b } from "./y z/..";`, `import { c as d } from "./y z/..";`, `import e from "./y z/..";`}},
		lines{text: `import*as n from"x";`, requests: x, imps: []string{`import * as n from "x";`}},
		lines{text: `import d from"x";`, requests: x, imps: []string{`import d from "x";`}},
		lines{text: `export{a};`, exps: []string{`export { a };`}},
		lines{text: `export{a as a};`, exps: []string{`export { a };`}},
		lines{text: `export{a,b as c,d as default};`, exps: []string{`export { a };`, `export { b as c };`, `export { d as default };`}},
		lines{text: `export{a}from"x";`, requests: x, exps: []string{`export { a } from "x";`}},
		lines{text: `export{a as b,default,default as default,default as c,d as default}from"./y z/..";`, requests: y, exps: []string{`export { a as b } from "./y z/..";`, `export { default } from "./y z/..";`, `export { default } from "./y z/..";`, `export { default as c } from "./y z/..";`, `export { d as default } from "./y z/..";`}},
		lines{text: `export*from"x";`, requests: x, exps: []string{`export * from "x";`}},
		lines{text: `export default 7;`, stmts: []string{`export default 7;`}},
		lines{text: `export let a=8;`, exps: []string{`export { a };`}, stmts: []string{`let a = 8;`}},
		lines{text: `export function f(){return 9;}`, exps: []string{`export { f };`}, stmts: []string{`function f() { return 9; }`}},
	)
}

// printedOf is the text of items together: requests once, then Imps, Exps and Stmts.
func printedOf(items ...lines) string {
	all := lines{}
	for _, c := range items {
		for _, r := range c.requests {
			if !slices.Contains(all.requests, r) {
				all.requests = append(all.requests, r)
			}
		}
		all.imps = append(all.imps, c.imps...)
		all.exps = append(all.exps, c.exps...)
		all.stmts = append(all.stmts, c.stmts...)
	}
	text := ""
	for _, line := range slices.Concat(all.requests, all.imps, all.exps, all.stmts) {
		text += line + "\n"
	}
	return text
}

func TestPrintOfItemsAlone(t *testing.T) {
	for _, script := range inBoth {
		wantWritten(t, "", script, "")
		wantWritten(t, " // nothing\n", script, "")
		for _, c := range linesOf(script) {
			wantWritten(t, c.text, script, printedOf(c))
		}
	}
}

func TestPrintOfItemsTogether(t *testing.T) {
	for _, script := range inBoth {
		items := linesOf(script)
		for _, a := range items {
			for _, b := range items {
				wantWritten(t, a.text+b.text, script, printedOf(a, b))
				for _, c := range items {
					wantWritten(t, a.text+b.text+c.text, script, printedOf(a, b, c))
				}
			}
		}
		for range 2 {
			text := ""
			for _, c := range items {
				text += c.text
			}
			wantWritten(t, text, script, printedOf(items...))
			slices.Reverse(items)
		}
	}
}

// A module's Stmts are those of a script: what stands in both is written alike.
func TestPrintIsTheSameInBoth(t *testing.T) {
	for _, script := range inBoth {
		for _, c := range linesOf(script) {
			m := mustParse(t, c.text, script)
			if impl.Print(m, !script) != printedOf(c) {
				t.Errorf("Print(%s, %v) = %q", dump(m), !script, impl.Print(m, !script))
			}
		}
	}
}

func TestPrintOfDefault(t *testing.T) {
	wantWritten(t, `export default 1; let a = 2; export default f(); export { a as default }; export { default } from "x";`, false,
		"import \"x\";\nexport { a as default };\nexport { default } from \"x\";\nexport default 1;\nlet a = 2;\nexport default f();\n")
	// Neither stands on the other: an Exp of DefaultName alone has no line, and a Stmt of it has one.
	m := exported(impl.Mod{}, impl.Exp{Kind: impl.EpLocal, Name: "default", Local: impl.DefaultName})
	for _, script := range inBoth {
		if got := impl.Print(m, script); got != "" {
			t.Errorf("an Exp of DefaultName is printed as %q", got)
		}
		if got := impl.Print(one(impl.StLet, impl.DefaultName), script); got != "export default 1;\n" {
			t.Errorf("a Stmt of DefaultName is printed as %q", got)
		}
	}
}

// frames are what stands around the expression of each item.
func frames(script bool) [][2]string {
	l := [][2]string{{"let a = ", ";\n"}, {"function f() { return ", "; }\n"}, {"a = ", ";\n"}, {"print(", ");\n"}, {"throw ", ";\n"}}
	if script {
		return append(l, [2]string{"fail ", ";\n"})
	}
	return append(l, [2]string{"export default ", ";\n"})
}

func TestPrintOfExpressions(t *testing.T) {
	for _, script := range inBoth {
		exprs := [][2]string{
			{"0", "0"}, {"1000000", "1000000"}, {"x", "x"}, {"f ( )", "f()"}, {"n . x", "n.x"}, {"n . f ( )", "n.f()"}, {"n.default", "n.default"}, {"n.default()", "n.default()"},
			{"1+2", "1 + 2"}, {"1-2", "1 - 2"}, {"1*2", "1 * 2"}, {"((1))", "1"}, {"((f()))", "f()"}, {"(n.x)", "n.x"},
			// A sum as a side of a product.
			{"(1+2)*3", "(1 + 2) * 3"}, {"(1-2)*3", "(1 - 2) * 3"}, {"3*(1+2)", "3 * (1 + 2)"}, {"3*(1-2)", "3 * (1 - 2)"}, {"(1+2)*(3-4)", "(1 + 2) * (3 - 4)"},
			// A sum or difference on the right of a sum or difference, and on its left.
			{"1+(2+3)", "1 + (2 + 3)"}, {"1+(2-3)", "1 + (2 - 3)"}, {"1-(2+3)", "1 - (2 + 3)"}, {"1-(2-3)", "1 - (2 - 3)"},
			{"(1+2)+3", "1 + 2 + 3"}, {"(1-2)+3", "1 - 2 + 3"}, {"(1+2)-3", "1 + 2 - 3"}, {"(1-2)-3", "1 - 2 - 3"}, {"((1+2))+(3-4)", "1 + 2 + (3 - 4)"},
			// A product on the right of a product, and on its left.
			{"1*(2*3)", "1 * (2 * 3)"}, {"(1*2)*3", "1 * 2 * 3"}, {"(1*2)*(3*4)", "1 * 2 * (3 * 4)"},
			// A product as a side of a sum.
			{"(1*2)+3", "1 * 2 + 3"}, {"1+(2*3)", "1 + 2 * 3"}, {"(1*2)-(3*4)", "1 * 2 - 3 * 4"}, {"1-(2*(3*4))", "1 - 2 * (3 * 4)"},
			// A part needs none.
			{"(1)*(x)", "1 * x"}, {"(f())-(n.x)", "f() - n.x"}, {"(n.f())*((1))", "n.f() * 1"}, {"1-((x))", "1 - x"}, {"f()*(f()-f())", "f() * (f() - f())"},
			{"(((1+2)*3-4)*5)*(6*(7-8))", "((1 + 2) * 3 - 4) * 5 * (6 * (7 - 8))"},
		}
		if script {
			exprs = append(exprs, [][2]string{{"undef", "undef"}, {"undef ( )", "undef()"}, {"$ . x$", "$.x$"}, {"(undef-(undef()+1))*2", "(undef - (undef() + 1)) * 2"}}...)
		} else {
			exprs = append(exprs, [][2]string{{"fail ( )", "fail()"}, {"undef . fail", "undef.fail"}, {"(fail+1)*2", "(fail + 1) * 2"}}...)
		}
		for _, f := range frames(script) {
			for _, x := range exprs {
				wantWritten(t, f[0]+x[0]+f[1], script, f[0]+x[1]+f[1])
			}
		}
	}
}

// A name stands at its own ( alone; a word, or a name ahead of an =, has a blank behind it.
func TestPrintOfAWordAheadOfParentheses(t *testing.T) {
	wantWritten(t, "export default (1+2)*3-(4-5);", false, "export default (1 + 2) * 3 - (4 - 5);\n")
	for _, script := range inBoth {
		wantWritten(t, "function f() { return(1+2)*3; }", script, "function f() { return (1 + 2) * 3; }\n")
		wantWritten(t, "throw(1+2)*3;", script, "throw (1 + 2) * 3;\n")
		wantWritten(t, "print((1+2)*3);", script, "print((1 + 2) * 3);\n")
		wantWritten(t, "print ( ( ( 1+2 )*3-4 )*5 );", script, "print(((1 + 2) * 3 - 4) * 5);\n")
		wantWritten(t, "let a=(1+2)*3;", script, "let a = (1 + 2) * 3;\n")
		wantWritten(t, "a=f ( )*(f ( )-n . f ( ));", script, "a = f() * (f() - n.f());\n")
	}
	wantWritten(t, "fail(1+2)*3;", true, "fail (1 + 2) * 3;\n")
	wantWritten(t, "print(fail ( ));", false, "print(fail());\n")
}

// treesOf are all expressions with that many leaves, each as the Exprs that end with it.
func treesOf(leaves int) [][]impl.Expr {
	if leaves == 1 {
		return [][]impl.Expr{{{Kind: impl.ExNum, Num: 1}}}
	}
	trees := [][]impl.Expr{}
	for left := 1; left < leaves; left++ {
		for _, l := range treesOf(left) {
			for _, r := range treesOf(leaves - left) {
				for kind := impl.ExAdd; kind <= impl.ExMul; kind++ {
					m := joined(impl.Mod{Exprs: l}, impl.Mod{Exprs: r})
					trees = append(trees, append(m.Exprs, impl.Expr{Kind: kind, L: len(l) - 1, R: len(m.Exprs) - 1}))
				}
			}
		}
	}
	return trees
}

// closing is where the ( at a place of a text ends.
func closing(text string, open int) int {
	depth := 0
	for i := open; i < len(text); i++ {
		switch text[i] {
		case '(':
			depth++
		case ')':
			depth--
		}
		if depth == 0 {
			return i
		}
	}
	return -1
}

// wantNeeded asks that without any two ( ) of an expression the text means something else.
func wantNeeded(t *testing.T, m impl.Mod, text string, script bool) {
	t.Helper()
	for i := range text {
		// Behind a name stands the ( of the name.
		if text[i] != '(' || i == 0 || text[i-1] != ' ' && text[i-1] != '(' {
			continue
		}
		end := closing(text, i)
		without := text[:i] + text[i+1:end] + text[end+1:]
		if again, bad := impl.Parse(without, script); bad == -1 && isSameMod(again, m) {
			t.Fatalf("%q means no more than %q", text, without)
		}
	}
}

func TestParenthesesStandWhereTheyAreNeeded(t *testing.T) {
	for leaves := 1; leaves <= 5; leaves++ {
		for _, exprs := range treesOf(leaves) {
			for _, script := range inBoth {
				m := impl.Mod{Exprs: exprs, Stmts: []impl.Stmt{{Kind: impl.StThrow, Expr: len(exprs) - 1}}}
				text := impl.Print(m, script)
				wantPrinted(t, m, script, text)
				wantNeeded(t, m, text, script)
				m.Stmts[0].Kind = impl.StPrint
				wantNeeded(t, m, impl.Print(m, script), script)
			}
		}
	}
}

// gapOf is what stands between two tokens of a line, ahead being the one ahead of both.
func gapOf(ahead, last, next impl.Token, script bool) string {
	isSign := func(k impl.Token, signs string) bool { return k.Kind == impl.TkSign && strings.Contains(signs, k.Text) }
	isWord := last.Text == "default" && !isSign(ahead, ".") || last.Text == "return" || last.Text == "throw" || script && last.Text == "fail"
	switch {
	case isSign(last, ";") && !isSign(next, "}"), isSign(last, "}") && isSign(ahead, ";"):
		return "\n"
	case isSign(next, ";,)."), isSign(last, "(."):
		return ""
	case isSign(next, "(") && last.Kind == impl.TkName && !isWord:
		return ""
	}
	return " "
}

// wantBlanks asks that between the tokens of a text stands what should.
func wantBlanks(t *testing.T, text string, script bool) {
	t.Helper()
	tokens, bad := impl.Lex(text, script)
	want := ""
	for i, k := range tokens {
		if i > 0 {
			want += gapOf(tokens[max(i-2, 0)], tokens[i-1], k, script)
		}
		want += tokenText(k)
	}
	if len(tokens) > 0 {
		want += "\n"
	}
	if bad != -1 || text != want {
		t.Fatalf("%q is printed, not %q", text, want)
	}
}

// wantLines asks that each thing of a program has a line.
func wantLines(t *testing.T, m impl.Mod, text string) {
	t.Helper()
	want := len(m.Requests) + len(m.Imps) + len(m.Exps) + len(m.Stmts)
	for _, e := range m.Exps {
		if e.Local == impl.DefaultName {
			want--
		}
	}
	if got := strings.Count(text, "\n"); got != want {
		t.Fatalf("%q has %d lines, not %d", text, got, want)
	}
}

func TestPrintOfManyPrograms(t *testing.T) {
	for _, script := range inBoth {
		k := newMaker(script)
		for range 5000 {
			m, _ := k.make()
			text := impl.Print(m, script)
			wantPrinted(t, m, script, text)
			wantBlanks(t, text, script)
			wantLines(t, m, text)
			wantNeeded(t, m, text, script)
		}
	}
}

// What Print writes of a program that is not right means another one, or none; so it is the right ones that are read again.
func TestPrintOfProgramsMeddledWith(t *testing.T) {
	for _, script := range inBoth {
		k := newMaker(script)
		right := 0
		for range 20000 {
			m, _ := k.make()
			k.meddle(&m)
			text := impl.Print(m, script)
			again, bad := impl.Parse(text, script)
			if ok := bad == -1 && isSameMod(again, m); ok != impl.ModOk(m, script) {
				t.Fatalf("ModOk is %v of %s, which is printed as %q", !ok, dump(m), text)
			} else if ok {
				right++
				wantPrinted(t, m, script, text)
			}
		}
		if right < 1000 {
			t.Errorf("%d are right: that tells too little", right)
		}
	}
}

// deepMod has n ( ) inside of each other, the one on the right of the other.
func deepMod(kind, n int) impl.Mod {
	m := impl.Mod{Exprs: slices.Repeat([]impl.Expr{{Kind: impl.ExNum, Num: 1}}, n+2)}
	for i := range n + 1 {
		m.Exprs = append(m.Exprs, impl.Expr{Kind: kind, L: n - i, R: n + 1 + i})
	}
	m.Stmts = []impl.Stmt{{Kind: impl.StThrow, Expr: len(m.Exprs) - 1}}
	return m
}

func TestPrintOfDeepParentheses(t *testing.T) {
	for kind, sign := range map[int]string{impl.ExAdd: " + ", impl.ExSub: " - ", impl.ExMul: " * "} {
		for _, n := range []int{0, 1, 2, impl.MaxDepth - 1, impl.MaxDepth, impl.MaxDepth + 1, 1 << 16} {
			for _, script := range inBoth {
				m := deepMod(kind, n)
				want := "throw 1" + strings.Repeat(sign+"(1", n) + sign + "1" + strings.Repeat(")", n) + ";\n"
				if n <= impl.MaxDepth {
					wantPrinted(t, m, script, want)
					continue
				}
				// What Parse does not take is written all the same.
				if impl.Print(m, script) != want {
					t.Errorf("Print is wrong of %d ( inside of each other", n)
				}
				if impl.ModOk(m, script) {
					t.Errorf("ModOk is true of %d ( inside of each other", n)
				}
			}
		}
	}
}

// fullMod has as many of each thing as there may be.
func fullMod() impl.Mod {
	m := impl.Mod{}
	for i := range impl.MaxNames {
		spec := strings.Repeat("~", impl.MaxStr-2) + fmt.Sprintf("%02d", i)
		m.Requests = append(m.Requests, spec)
		m.Imps = append(m.Imps, impl.Imp{Spec: spec, From: "from", Local: "as"})
		m.Exps = append(m.Exps, impl.Exp{Kind: impl.EpFrom, Name: "as", Local: "default", Spec: spec})
	}
	for i := range impl.MaxStmts {
		m.Exprs = append(m.Exprs, impl.Expr{Kind: impl.ExMemCall, Name: "n", Field: "default"})
		m.Stmts = append(m.Stmts, impl.Stmt{Kind: impl.StFn, Name: "f", Expr: i})
	}
	for at := len(m.Exprs); at < impl.MaxExprs; at += 2 {
		m.Exprs = append(m.Exprs, impl.Expr{Kind: impl.ExNum, Num: impl.MaxNum}, impl.Expr{Kind: impl.ExMul, L: at - 1, R: at})
		m.Stmts[impl.MaxStmts-1].Expr = at + 1
	}
	return m
}

func TestPrintAtTheLimits(t *testing.T) {
	want := ""
	for _, form := range []string{"import \"%s%02d\";\n", "import { from as as } from \"%s%02d\";\n", "export { default as as } from \"%s%02d\";\n"} {
		for i := range impl.MaxNames {
			want += fmt.Sprintf(form, strings.Repeat("~", impl.MaxStr-2), i)
		}
	}
	want += strings.Repeat("function f() { return n.default(); }\n", impl.MaxStmts-1)
	want += "function f() { return n.default()" + strings.Repeat(" * 1000000", (impl.MaxExprs-impl.MaxStmts)/2) + "; }\n"
	wantPrinted(t, fullMod(), false, want)
	// One more of a thing is written, too, but it is no program.
	m := fullMod()
	m.Imps = append(m.Imps, m.Imps[0])
	if impl.ModOk(m, false) || len(impl.Print(m, false)) <= len(want) {
		t.Error("one Imp too many is not written, or is right")
	}
}

// sumMod is a program that prints 1 and 2 with a sign between.
func sumMod(kind int) impl.Mod {
	return impl.Mod{
		Requests: []string{"x"},
		Exprs:    []impl.Expr{{Kind: impl.ExNum, Num: 1}, {Kind: impl.ExNum, Num: 2}, {Kind: kind, L: 0, R: 1}},
		Stmts:    []impl.Stmt{{Kind: impl.StPrint, Expr: 2}},
	}
}

func wantEmpty(t *testing.T, what string, m impl.Mod) {
	t.Helper()
	for _, script := range inBoth {
		if got := impl.Print(m, script); got != "" {
			t.Errorf("%s: Print(%s, %v) = %q", what, dump(m), script, got)
		}
	}
}

func TestPrintOfSidesThatAreNotBelow(t *testing.T) {
	for kind := impl.ExAdd; kind <= impl.ExMul; kind++ {
		wantPrinted(t, sumMod(kind), false, "import \"x\";\nprint(1 "+string("+-*"[kind-impl.ExAdd])+" 2);\n")
		for _, side := range []int{-1, -2, math.MinInt, 2, 3, 4, math.MaxInt, 1 << 32, -1 << 32} {
			m := sumMod(kind)
			m.Exprs[2].L = side
			wantEmpty(t, "a wrong L", m)
			m = sumMod(kind)
			m.Exprs[2].R = side
			wantEmpty(t, "a wrong R", m)
			m.Exprs[2].L = side
			wantEmpty(t, "both sides wrong", m)
		}
		// Each is used just once, but a side is a number that is not below its own.
		num := impl.Expr{Kind: impl.ExNum}
		print := []impl.Stmt{{Kind: impl.StPrint, Expr: 1}}
		wantEmpty(t, "an L behind", impl.Mod{Exprs: []impl.Expr{num, {Kind: kind, L: 2, R: 0}, num}, Stmts: print})
		wantEmpty(t, "an R behind", impl.Mod{Exprs: []impl.Expr{num, {Kind: kind, L: 0, R: 2}, num}, Stmts: print})
		wantEmpty(t, "both sides behind", impl.Mod{Exprs: []impl.Expr{num, {Kind: kind, L: 2, R: 3}, num, num}, Stmts: append(print, impl.Stmt{Kind: impl.StPrint})})
		wantEmpty(t, "an L that is its own", impl.Mod{Requests: []string{"x"}, Exprs: []impl.Expr{num, {Kind: kind, L: 1, R: 0}}})
		wantEmpty(t, "an R that is its own", impl.Mod{Requests: []string{"x"}, Exprs: []impl.Expr{num, {Kind: kind, L: 0, R: 1}}})
		wantEmpty(t, "each a side of the other", impl.Mod{Requests: []string{"x"}, Exprs: []impl.Expr{{Kind: kind, L: 1, R: 2}, {Kind: kind, L: 0, R: 3}, num, num}})
	}
	// The others have no sides.
	for kind := impl.ExNum; kind <= impl.ExMemCall; kind++ {
		m := one(impl.StThrow, "")
		m.Exprs[0] = impl.Expr{Kind: kind, Num: 7, Name: "n", Field: "x", L: 5, R: -5}
		want := []string{"", "7", "n", "n()", "n.x", "n.x()"}[kind]
		if got := impl.Print(m, false); got != "throw "+want+";\n" {
			t.Errorf("Print(%s) = %q", dump(m), got)
		}
	}
}

func TestPrintOfStmtsWithoutTheirExpr(t *testing.T) {
	for kind := 0; kind <= impl.StFail+1; kind++ {
		for _, expr := range []int{-1, math.MinInt, 1, 2, math.MaxInt, 1 << 32, -1 << 32} {
			m := one(kind, "a")
			m.Requests = []string{"x"}
			m.Stmts[0].Expr = expr
			wantEmpty(t, "a Stmt's Expr that is no number", m)
			m.Stmts = append(m.Stmts, impl.Stmt{Kind: kind})
			wantEmpty(t, "the first Stmt's Expr that is no number", m)
			slices.Reverse(m.Stmts)
			wantEmpty(t, "the last Stmt's Expr that is no number", m)
		}
		wantEmpty(t, "no Exprs", impl.Mod{Stmts: []impl.Stmt{{Kind: kind}}})
	}
}

func TestPrintOfExprsThatAreNotUsedOnce(t *testing.T) {
	num := impl.Expr{Kind: impl.ExNum}
	print := func(expr int) impl.Stmt { return impl.Stmt{Kind: impl.StPrint, Expr: expr} }
	for kind := 0; kind <= impl.ExMul+1; kind++ {
		x := impl.Expr{Kind: kind, Name: "a", Field: "b", L: 0, R: 1}
		wantEmpty(t, "one that is no one's, at the end", impl.Mod{Exprs: []impl.Expr{num, num, x}, Stmts: []impl.Stmt{print(0), print(1)}})
		wantEmpty(t, "one that two Stmts have", impl.Mod{Exprs: []impl.Expr{num, num, x}, Stmts: []impl.Stmt{print(2), print(2)}})
	}
	for kind := impl.ExAdd; kind <= impl.ExMul; kind++ {
		wantEmpty(t, "one that is both sides", impl.Mod{Exprs: []impl.Expr{num, {Kind: kind}}, Stmts: []impl.Stmt{print(1)}})
		wantEmpty(t, "one that is a side of two", impl.Mod{Exprs: []impl.Expr{num, num, {Kind: kind, L: 0, R: 1}, {Kind: kind, L: 2, R: 1}}, Stmts: []impl.Stmt{print(3)}})
		wantEmpty(t, "a side that a Stmt has, too", impl.Mod{Exprs: []impl.Expr{num, num, {Kind: kind, L: 0, R: 1}}, Stmts: []impl.Stmt{print(2), print(0)}})
		wantEmpty(t, "a side that a Stmt has, and a sum that none has", impl.Mod{Exprs: []impl.Expr{num, num, {Kind: kind, L: 0, R: 1}}, Stmts: []impl.Stmt{print(1)}})
		wantEmpty(t, "one that is no one's, ahead", impl.Mod{Exprs: []impl.Expr{num, num, num, {Kind: kind, L: 1, R: 2}}, Stmts: []impl.Stmt{print(3)}})
		wantEmpty(t, "one that is no one's, between", impl.Mod{Exprs: []impl.Expr{num, num, num, {Kind: kind, L: 0, R: 2}}, Stmts: []impl.Stmt{print(3)}})
		// Where one is there twice and another lacks, there are as many as there should be.
		wantEmpty(t, "one twice, another not", impl.Mod{Exprs: []impl.Expr{num, num, {Kind: kind, L: 1, R: 1}}, Stmts: []impl.Stmt{print(2)}})
	}
	wantEmpty(t, "Exprs without Stmts", impl.Mod{Exprs: []impl.Expr{num}})
	wantEmpty(t, "Exprs without Stmts, beside others", impl.Mod{Requests: []string{"x"}, Imps: []impl.Imp{{Spec: "x", From: "a", Local: "a"}}, Exprs: []impl.Expr{num}})
}

// The order of Exprs is Parse's, not Print's: what hangs together is written where it hangs.
func TestPrintOfExprsInAnotherOrder(t *testing.T) {
	m := impl.Mod{
		Exprs: []impl.Expr{{Kind: impl.ExName, Name: "c"}, {Kind: impl.ExName, Name: "b"}, {Kind: impl.ExName, Name: "a"}, {Kind: impl.ExSub, L: 1, R: 0}, {Kind: impl.ExMul, L: 3, R: 2}, {Kind: impl.ExNum, Num: 4}},
		Stmts: []impl.Stmt{{Kind: impl.StThrow, Expr: 5}, {Kind: impl.StPrint, Expr: 4}},
	}
	for _, script := range inBoth {
		if got := impl.Print(m, script); got != "throw 4;\nprint((b - c) * a);\n" || impl.ModOk(m, script) {
			t.Errorf("Print(%s, %v) = %q", dump(m), script, got)
		}
	}
}

func TestPrintOfNoKind(t *testing.T) {
	want := func(m impl.Mod, text string) {
		t.Helper()
		for _, script := range inBoth {
			if got := impl.Print(m, script); got != text {
				t.Errorf("Print(%s, %v) = %q, not %q", dump(m), script, got, text)
			}
		}
	}
	for _, kind := range []int{0, 4, -1, math.MinInt, math.MaxInt} {
		want(exported(impl.Mod{}, impl.Exp{Kind: kind, Name: "a", Local: "a", Spec: "x"}), "export { a };\n")
		want(exported(impl.Mod{}, impl.Exp{Kind: kind, Name: "b", Local: "a"}), "export { a as b };\n")
		want(exported(impl.Mod{}, impl.Exp{Kind: kind, Name: "default", Local: impl.DefaultName}), "")
	}
	for _, kind := range []int{0, impl.StFail, 7, -1, math.MinInt, math.MaxInt} {
		want(one(kind, ""), "fail 1;\n")
		want(one(kind, "a"), "fail 1;\n")
		want(one(kind, impl.DefaultName), "export default 1;\n")
	}
	for _, kind := range []int{0, 9, -1, math.MinInt, math.MaxInt} {
		// No byte of it, and of its sides none is looked at.
		none := impl.Expr{Kind: kind, Num: 1, Name: "a", Field: "b", L: 7, R: -7}
		num := impl.Expr{Kind: impl.ExNum, Num: 1}
		for _, script := range inBoth {
			for _, f := range frames(script) {
				m := mustParse(t, f[0]+"1"+f[1], script)
				m.Exps, m.Exprs[0] = nil, none
				want(m, f[0]+f[1])
			}
		}
		for i, sign := range []string{" + ", " - ", " * "} {
			m := sumMod(impl.ExAdd + i)
			m.Requests, m.Exprs[0], m.Exprs[1] = nil, num, none
			want(m, "print(1"+sign+");\n")
			m.Exprs[0], m.Exprs[1] = none, num
			want(m, "print("+sign+"1);\n")
			m.Exprs[1] = none
			want(m, "print("+sign+");\n")
		}
	}
}

// sharesMemory tells whether a text stands in the memory of another one.
func sharesMemory(a, b string) bool {
	if a == "" || b == "" {
		return false
	}
	p, q := uintptr(unsafe.Pointer(unsafe.StringData(a))), uintptr(unsafe.Pointer(unsafe.StringData(b)))
	return p < q+uintptr(len(b)) && q < p+uintptr(len(a))
}

func TestPrintIsNewMemory(t *testing.T) {
	for _, script := range inBoth {
		for _, c := range linesOf(script) {
			m := mustParse(t, c.text, script)
			first, second := impl.Print(m, script), impl.Print(m, script)
			if first != second || sharesMemory(first, second) {
				t.Errorf("two answers share memory: %q, %q", first, second)
			}
			for _, list := range textsOfLists(m) {
				for _, text := range list {
					if sharesMemory(first, text) {
						t.Errorf("%q shares memory with %q", first, text)
					}
				}
			}
		}
	}
}

func TestPrintDoesNotWriteIntoPrograms(t *testing.T) {
	for _, script := range inBoth {
		k := newMaker(script)
		for range 500 {
			m, _ := k.make()
			k.meddle(&m)
			spare := withSpare(m)
			impl.Print(spare, script)
			wantSpare(t, spare, m)
		}
	}
}
