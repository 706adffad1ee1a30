package tests

import (
	"cmp"
	"fmt"
	"strings"
	"testing"

	"loop.example/g00777/impl"
)

// side is an expression with what it costs up to where it tells a text, or ends the program.
type side struct {
	text  string
	cost  int
	tells string
	end   string
}

// endsAhead costs 10 steps, and prints 0 as its last thing.
const endsAhead = `import * as n from "./b"; import * as me from "./a"; function f() { return 8; } function r() { return r(); } let one = 5; function t() { return one(); } print(0);`

// endsBehind declares what was read ahead of its place.
const endsBehind = `export let later = 1; print(9);`

func endsGraph(t *testing.T, text string) impl.Graph {
	t.Helper()
	return linked(t, endsAhead+text+endsBehind, `export let x = 3; export function g() { return 4; }`)
}

// sides tell each kind of value, and end in each way.
func sides() []side {
	return []side{
		{"7", 1, "7", ""}, {"one", 1, "5", ""}, {"f()", 2, "8", ""}, {"n.x", 1, "3", ""}, {"n.g()", 2, "4", ""}, {"(0 - 2)", 3, "-2", ""},
		{"f", 1, "function", ""}, {"n.g", 1, "function", ""}, {"n.none", 1, "undefined", ""},
		{"none", 1, "", "ref"}, {"none()", 1, "", "ref"}, {"later", 1, "", "ref"}, {"later()", 1, "", "ref"}, {"me.later", 1, "", "ref"}, {"me.later()", 1, "", "ref"}, {"undef", 1, "", "ref"},
		{"one()", 1, "", "type"}, {"n.x()", 1, "", "type"}, {"n.none()", 1, "", "type"}, {"(f + 1)", 3, "", "type"}, {"t()", 2, "", "type"},
		{"(1000000 + 1)", 3, "", "range"}, {"(0 - 1000000 - 1)", 5, "", "range"}, {"r()", 31, "", "range"},
	}
}

func TestRunOfStatementsThatEnd(t *testing.T) {
	for _, s := range sides() {
		for _, c := range []struct {
			form string
			more int
			end  string
		}{
			{`print(E);`, 0, ""}, {`let v = E; print(v);`, 2, ""}, {`one = E; print(one);`, 2, ""}, {`f = E; print(f);`, 2, ""}, {`export default E; print(me.default);`, 2, ""},
			{`none = E; print(1);`, 0, "ref"}, {`later = E; print(1);`, 0, "ref"}, {`throw E;`, 0, "throw:" + s.tells},
		} {
			at := 10 + 1 + s.cost
			want := fmt.Sprintf("10:0 %d:%s %d:9 %d:done", at+c.more, s.tells, at+c.more+4, at+c.more+4)
			// An end of the expression counts ahead of one of the statement.
			if end := cmp.Or(s.end, c.end); end != "" {
				want = fmt.Sprintf("10:0 %d:%s", at, end)
			}
			wantGraphCourse(t, endsGraph(t, strings.ReplaceAll(c.form, "E", s.text)), want)
		}
	}
	// What a function would tell is not asked where it is declared.
	for _, s := range sides() {
		g := endsGraph(t, `function q() { return `+s.text+`; } print(q);`)
		wantGraphCourse(t, g, `10:0 13:function 17:9 17:done`)
	}
}

func TestRunOfSums(t *testing.T) {
	// What is told from the left: where the left side ends the program, the right one is not told; only then both are asked for numbers.
	numbers := map[string]int{"7": 7, "5": 5, "8": 8, "3": 3, "4": 4, "-2": -2}
	for _, l := range sides() {
		for _, r := range sides() {
			for _, sign := range []string{"+", "-", "*"} {
				at, want := 10+2+l.cost, ""
				a, isLeft := numbers[l.tells]
				b, isRight := numbers[r.tells]
				value := map[string]int{"+": a + b, "-": a - b, "*": a * b}[sign]
				switch {
				case l.end != "":
					want = fmt.Sprintf("10:0 %d:%s", at, l.end)
				case r.end != "":
					want = fmt.Sprintf("10:0 %d:%s", at+r.cost, r.end)
				case !isLeft || !isRight:
					want = fmt.Sprintf("10:0 %d:type", at+r.cost)
				default:
					want = fmt.Sprintf("10:0 %d:%d %d:9 %d:done", at+r.cost, value, at+r.cost+4, at+r.cost+4)
				}
				wantGraphCourse(t, endsGraph(t, `print(`+l.text+sign+r.text+`);`), want)
			}
		}
	}
}

func TestRunOfNumbersAtTheirBounds(t *testing.T) {
	for _, c := range []struct {
		text string
		cost int
		want string
	}{
		{`1000000`, 1, "1000000"}, {`1000000 + 0`, 3, "1000000"}, {`999999 + 1`, 3, "1000000"}, {`1000 * 1000`, 3, "1000000"}, {`0 - 1000000`, 3, "-1000000"}, {`(0 - 999999) - 1`, 5, "-1000000"}, {`1000 * (0 - 1000)`, 5, "-1000000"}, {`(0 - 1000) * (0 - 1000)`, 7, "1000000"},
		{`1000000 - (0 - 0)`, 5, "1000000"}, {`1000000 - 1000000`, 3, "0"}, {`1000000 * 0`, 3, "0"}, {`1000000 * 1`, 3, "1000000"}, {`(0 - 1000000) + 1000000`, 5, "0"}, {`(0 - 1000000) * (0 - 1)`, 7, "1000000"},
		{`1000000 + 1`, 3, "range"}, {`1 + 1000000`, 3, "range"}, {`1000000 + 1000000`, 3, "range"}, {`1000000 - (0 - 1)`, 5, "range"}, {`0 - 1000000 - 1`, 5, "range"}, {`(0 - 1000000) - 1000000`, 5, "range"}, {`1000 * 1001`, 3, "range"}, {`1001 * 1000`, 3, "range"},
		{`1000 * (0 - 1001)`, 5, "range"}, {`(0 - 1001) * 1000`, 5, "range"}, {`1000000 * 1000000`, 3, "range"}, {`1000000 * (0 - 1000000)`, 5, "range"}, {`(0 - 1) + (0 - 1000000)`, 7, "range"},
		// What is too great in the midst is not made good.
		{`1000000 + 1 - 1`, 4, "range"}, {`0 * (1000000 + 1)`, 5, "range"}, {`2 * 1000000 - 1000000`, 4, "range"},
	} {
		want := fmt.Sprintf("%d:%s", 1+c.cost, c.want)
		if c.want != "range" {
			want += fmt.Sprintf(" %d:done", 1+c.cost)
		}
		wantBothCourses(t, `print(`+c.text+`);`, want)
	}
}

func TestRunOfNamesAheadOfTheirPlace(t *testing.T) {
	wantBothOfAll(t, []twin{
		{`print(a); let a = 1;`, `2:ref`}, {`print(1); print(a); let a = 1;`, `2:1 4:ref`}, {`print(a);`, `2:ref`}, {`let a = a;`, `2:ref`}, {`let a = 1 + a;`, `4:ref`}, {`let a = b; let b = 1;`, `2:ref`}, {`throw a; let a = 1;`, `2:ref`},
		{`print(a()); let a = 1;`, `2:ref`}, {`let a = 1; let b = a + c; let c = 2;`, `6:ref`}, {`print(A); let a = 1;`, `2:ref`}, {`let a = 1; print(aa); print(A);`, `4:ref`},
		// A function is there from the beginning, and what it reads is not.
		{`print(f); function f() { return 1; }`, `2:function 3:done`}, {`print(f()); function f() { return 1; }`, `3:1 4:done`}, {`print(f()); function f() { return g(); } function g() { return 2; }`, `4:2 6:done`},
		{`print(f()); let a = 1; function f() { return a; }`, `3:ref`}, {`print(f); let a = 1; print(f()); function f() { return a; }`, `2:function 7:1 8:done`}, {`let a = f(); function f() { return a; }`, `3:ref`},
		{`function f() { return none; } print(1); print(f());`, `3:1 6:ref`},
	})
	// /b runs ahead of /a, which asks for it.
	a := `import "./b"; export let y = 3; export function f() { return 5; } export function g() { return y; } export default 7; print(y);`
	for _, c := range []twin{
		{`import { y } from "./a"; print(1); print(y);`, `2:1 4:ref`}, {`import { y as z } from "./a"; print(1); print(z);`, `2:1 4:ref`}, {`import y from "./a"; print(1); print(y);`, `2:1 4:ref`},
		{`import * as n from "./a"; print(1); print(n.y);`, `2:1 4:ref`}, {`import * as n from "./a"; print(1); print(n.default);`, `2:1 4:ref`}, {`import { y } from "./a"; export { y as z }; import { z } from "./b"; print(z);`, `2:ref`},
		{`import { y } from "./a"; print(1); print(y());`, `2:1 4:ref`}, {`import * as n from "./a"; print(1); print(n.y());`, `2:1 4:ref`}, {`import { y } from "./a"; let z = y; print(1);`, `2:ref`}, {`import { y } from "./a"; print(1 + y);`, `4:ref`},
		{`import { f } from "./a"; print(f); print(f());`, `2:function 5:5 13:3 13:done`}, {`import * as n from "./a"; print(n.f); print(n.f());`, `2:function 5:5 13:3 13:done`},
		{`import { g } from "./a"; print(g); print(g());`, `2:function 5:ref`}, {`import * as n from "./a"; print(n.g());`, `3:ref`}, {`import { y, f } from "./a"; function h() { return f() + y; } print(h); print(h());`, `3:function 9:ref`},
		{`import { y } from "./a"; function h() { return y; } print(h);`, `3:function 11:3 11:done`},
	} {
		wantGraphCourse(t, linked(t, a, c.text), c.course)
	}
}

func TestRunOfNamesThatAreWritten(t *testing.T) {
	wantBothOfAll(t, []twin{
		{`a = 1; let a = 2;`, `2:ref`}, {`a = 1;`, `2:ref`}, {`print(1); a = 1; print(2);`, `2:1 4:ref`}, {`a = 1; print(a);`, `2:ref`}, {`let a = 1; b = a;`, `4:ref`}, {`let a = 1; print(a); A = 2;`, `4:1 6:ref`},
		{`let a = 1; a = 2; print(a); a = a * a; print(a);`, `6:2 12:4 12:done`}, {`let a = 1; a = a; print(a);`, `6:1 6:done`}, {`let a = 5; let b = a; a = 6; b = b + a; print(b); print(a);`, `12:11 14:6 14:done`},
		// What is to be written is told first.
		{`a = b; let b = 1;`, `2:ref`}, {`a = 1000000 + 1;`, `4:range`}, {`a = f + 1; function f() { return 1; }`, `4:type`}, {`a = f(); function f() { return 1; } let a = 2;`, `3:ref`}, {`let a = 1; a = 2 * (a + none); print(a);`, `8:ref`},
		// A function is what was written, also where its place comes behind.
		{`f = 2; print(f); function f() { return 1; } print(f);`, `4:2 7:2 7:done`}, {`function f() { return 1; } f = 2; print(f);`, `5:2 5:done`}, {`function f() { return 1; } f = f(); print(f); print(f());`, `6:1 8:type`},
		{`f = g; print(f()); function f() { return 1; } function g() { return 2; }`, `5:2 7:done`}, {`function f() { return f; } let g = f; f = 3; print(g());`, `8:3 8:done`}, {`let a = 1; a = f; function f() { return a; } print(a());`, `8:function 8:done`},
	})
}

// writeGraph is of /a, where text stands, /b, which declares, and /c, which passes on.
func writeGraph(t *testing.T, text string) impl.Graph {
	t.Helper()
	return linked(t, `import "./c";`+text, `export let x = 1; export function f() { return 2; } export default 3; x = 4;`, `export * from "./b"; import { x as q } from "./b"; export { q as y }; export { x as z, f as h, default } from "./b"; export let own = 5;`)
}

func TestRunOfImportsThatAreWritten(t *testing.T) {
	// All that runs ahead of /a costs nine steps.
	for _, imports := range []string{
		`import { x as w } from "./b";`, `import { f as w } from "./b";`, `import w from "./b";`, `import { default as w } from "./b";`, `import { x as w } from "./c";`, `import { f as w } from "./c";`, `import { y as w } from "./c";`, `import { z as w } from "./c";`,
		`import { h as w } from "./c";`, `import w from "./c";`, `import { own as w } from "./c";`, `import { mine as w } from "./a"; export let mine = 1;`, `import { mine as w } from "./a"; export function mine() { return 1; }`, `import { w } from "./a"; export { x as w } from "./b";`,
	} {
		own := 2*strings.Count(imports, "let ") + strings.Count(imports, "function ")
		for _, c := range []struct {
			text string
			cost int
			end  string
		}{
			{`w = 1;`, 2, "type"}, {`w = w;`, 2, "type"}, {`w = 1 + 2;`, 4, "type"}, {`w = none;`, 2, "ref"}, {`w = 1 + later; let later = 1;`, 4, "ref"}, {`w = 1000000 + 1;`, 4, "range"}, {`w = q + 1; function q() { return 1; }`, 4, "type"}, {`w = q(); function q() { return 1; }`, 3, "type"},
		} {
			at := 9 + own
			wantGraphCourse(t, writeGraph(t, imports+`print(0);`+c.text+`print(1);`), fmt.Sprintf("%d:0 %d:%s", at+2, at+2+c.cost, c.end))
		}
	}
	// One that is not set yet is an import all the same, and one that a function of another module reads is not changed.
	wantGraphCourse(t, linked(t, `import "./b"; export let x = 1;`, `import { x } from "./a"; print(0); x = 1;`), `2:0 4:type`)
	wantGraphCourse(t, linked(t, `import { x, f } from "./b"; print(f()); x = 2; print(f());`, `export let x = 1; export function f() { return x; }`), `6:1 8:type`)
	// Its own name the module may write, as it stands exported, and under its other name it may not.
	wantGraphCourse(t, linked(t, `import { a as b } from "./a"; export let a = 1; a = 2; print(b); a = b + 1; print(b); b = 3;`), `6:2 12:3 14:type`)
}

func TestRunOfUndef(t *testing.T) {
	for _, c := range []twin{
		{`print(undef);`, `2:undefined 2:done`}, {`print(undef());`, `2:type`}, {`throw undef;`, `2:throw:undefined`}, {`let a = undef; print(a);`, `4:undefined 4:done`}, {`let a = undef; print(a());`, `4:type`}, {`fail undef;`, `2:type`}, {`let a = 1; a = undef; print(a); a = 2; print(a);`, `6:undefined 10:2 10:done`},
		{`print(undef + 1);`, `4:type`}, {`print(1 - undef);`, `4:type`}, {`print(undef * undef);`, `4:type`}, {`print(undef + none);`, `4:ref`}, {`print(none + undef);`, `3:ref`}, {`function f() { return undef; } print(f()); print(f() + 1);`, `4:undefined 9:type`},
		{`let undef$ = 1; let undefined = 2; print(undef$); print(undefined); print(undef);`, `6:1 8:2 10:undefined 10:done`}, {`function f() { return undef(); } print(f); print(f());`, `3:function 6:type`}, {`print(function$); let function$ = 1;`, `2:ref`},
	} {
		wantScriptCourse(t, c.text, c.course)
	}
	// It is a word in a script: nobody may write or declare it.
	for _, s := range []string{`undef = 1;`, `let undef = 1;`, `function undef() { return 1; }`} {
		if _, bad := impl.Parse(s, true); bad == -1 {
			t.Errorf("%q is a script", s)
		}
		m := mustParse(t, s, false)
		if got := impl.RunScript(m, 100); !isSameTrace(got, impl.Trace{End: impl.TrRef}) {
			t.Errorf("RunScript of %q tells %v", s, got)
		}
	}
	// In a module it is a name like any other.
	for _, c := range []twin{
		{`print(undef);`, `2:ref`}, {`print(undef());`, `2:ref`}, {`undef = 1;`, `2:ref`}, {`let undef = 1; print(undef); undef = 2; print(undef); print(undef());`, `4:1 8:2 10:type`}, {`print(undef); let undef = 1;`, `2:ref`}, {`function undef() { return 3; } print(undef());`, `4:3 4:done`},
		{`import { undef } from "./a"; print(undef); export { x as undef }; let x = 1;`, `2:ref`}, {`import { undef } from "./a"; export { x as undef }; let x = 1; print(undef); undef = 2;`, `4:1 6:type`}, {`let fail = 1; fail = fail + 1; print(fail);`, `8:2 8:done`},
		{`import * as undef from "./a"; print(undef.undef); print(undef.none());`, `2:undefined 4:type`}, {`import * as n from "./a"; export let undef = 1; print(n.undef);`, `4:1 4:done`},
	} {
		wantGraphCourse(t, linked(t, c.text), c.course)
	}
}

// calling is n functions, each of which calls the next one; the last one tells an expression.
func calling(n int, last string) string {
	text := ""
	for i := 1; i < n; i++ {
		text += fmt.Sprintf("function f%d(){return f%d();}", i, i+1)
	}
	return text + fmt.Sprintf("function f%d(){return %s;}", n, last)
}

func TestRunOfCallsInsideOfCalls(t *testing.T) {
	for n := 1; n <= impl.MaxCalls+3; n++ {
		want := fmt.Sprintf("%d:7 %d:done", 2*n+2, 2*n+2)
		if n > impl.MaxCalls {
			want = fmt.Sprintf("%d:range", n+1+impl.MaxCalls+1)
		}
		wantBothCourses(t, calling(n, "7")+`print(f1());`, want)
		// What has been told is not being told any more; the functions of both sides stand beside each other.
		want = fmt.Sprintf("%d:14 %d:done", 3*n+4, 3*n+4)
		if n > impl.MaxCalls {
			want = fmt.Sprintf("%d:range", n+2+impl.MaxCalls+1)
		}
		wantBothCourses(t, calling(n, "7")+`print(f1() + f1());`, want)
		// A function that is read, and not called, is none that is being told.
		if n <= impl.MaxCalls {
			wantBothCourses(t, calling(n, "f1")+`let g = f1(); print(g);`, fmt.Sprintf("%d:function %d:done", 2*n+4, 2*n+4))
		}
	}
	full := calling(impl.MaxCalls, "E") + `let one = 1; print(f1());`
	for _, c := range []struct {
		last string
		cost int
		end  string
	}{
		{"one()", 1, "type"}, {"none()", 1, "ref"}, {"later()", 1, "ref"}, {"f1()", 1, "range"}, {"f30()", 1, "range"}, {"one + f1()", 3, "range"}, {"f1() + none", 2, "range"}, {"one() + f1()", 2, "type"}, {"f1 + f1()", 3, "range"},
	} {
		wantBothCourses(t, strings.Replace(full, "E", c.last, 1)+`let later = 1;`, fmt.Sprintf("%d:%s", 30+2+1+30+c.cost, c.end))
	}
	wantBothOfAll(t, []twin{
		{`function f() { return f(); } print(f());`, `33:range`}, {`function f() { return g(); } function g() { return f(); } print(1); print(f());`, `4:1 36:range`}, {`function f() { return f() + f(); } print(f());`, `63:range`}, {`function f() { return 1 * f(); } print(f());`, `93:range`},
		{`function f() { return f(); } let g = f; print(g); print(g());`, `5:function 37:range`},
	})
}

func TestRunOfCallsAcrossModules(t *testing.T) {
	// Each function calls one of the other module, by its name or of a space.
	for _, call := range []string{`gN()`, `n.gN()`} {
		for n := 1; n <= impl.MaxCalls+2; n++ {
			a, b := `import * as n from "./b";`, `import * as n from "./a";`
			for i := 1; i <= n; i++ {
				own, other := &a, &b
				if i%2 == 0 {
					own, other = &b, &a
				}
				path := map[bool]string{true: "./a", false: "./b"}[own == &a]
				next := strings.ReplaceAll(call, "N", fmt.Sprint(i+1))
				if i == n {
					next = "7"
				}
				*own += fmt.Sprintf("export function g%d(){return %s;}", i, next)
				*other += fmt.Sprintf(`import{g%d}from"%s";`, i, path)
			}
			want := fmt.Sprintf("%d:7 %d:done", 2*n+2, 2*n+2)
			if n > impl.MaxCalls {
				want = fmt.Sprintf("%d:range", n+1+impl.MaxCalls+1)
			}
			wantGraphCourse(t, linked(t, a+`print(g1());`, b), want)
		}
	}
}

func TestRunOfWhatIsCalled(t *testing.T) {
	wantBothOfAll(t, []twin{
		{`let a = 1; print(a());`, `4:type`}, {`print(1); print(none());`, `2:1 4:ref`}, {`print(a()); let a = 1;`, `2:ref`}, {`function f() { return 1; } let a = f(); print(a());`, `6:type`}, {`function f() { return 1; } f = 2; print(f());`, `5:type`},
		{`function f() { return f; } let a = f(); print(a());`, `7:function 7:done`}, {`let a = 1; function f() { return a(); } print(1); print(f());`, `5:1 8:type`}, {`function f() { return 1; } let a = 1; a = f; print(a()); a = 5; print(a());`, `8:1 12:type`},
	})
	b := `export let x = 1; export function f() { return x + 1; } export default f; let hidden = 1; export * from "./c"; export * from "./d";`
	for _, c := range []struct {
		call string
		cost int
		want string
	}{
		{`f()`, 4, "2"}, {`x()`, 1, "type"}, {`d()`, 4, "2"}, {`n.f()`, 4, "2"}, {`n.x()`, 1, "type"}, {`n.default()`, 4, "2"}, {`n.none()`, 1, "type"}, {`n.hidden()`, 1, "type"}, {`n.many()`, 1, "type"}, {`n.one()`, 2, "6"}, {`x`, 1, "1"}, {`n.many`, 1, "undefined"}, {`n.none`, 1, "undefined"}, {`n.hidden`, 1, "undefined"},
		{`n.x`, 1, "1"}, {`n.f`, 1, "function"}, {`n.default`, 1, "function"}, {`d`, 1, "function"}, {`n.X`, 1, "undefined"}, {`n.n`, 1, "undefined"}, {`n.none + none`, 3, "ref"}, {`n.many * 2`, 3, "type"},
	} {
		at := 10 + 1 + c.cost
		want := fmt.Sprintf("%d:%s", at, c.want)
		if c.want != "type" && c.want != "ref" {
			want += fmt.Sprintf(" %d:done", at)
		}
		wantGraphCourse(t, linked(t, `import { f, x } from "./b"; import d from "./b"; import * as n from "./b"; print(`+c.call+`);`, b, `export function many() { return 5; } export function one() { return 6; }`, `export function many() { return 5; }`), want)
	}
}

func TestRunOfDefaults(t *testing.T) {
	for _, c := range []struct {
		b    string
		cost int
		want string
	}{
		{`export default 5;`, 2, "5"}, {`export default 1 + 2;`, 4, "3"}, {`export default f; function f() { return 1; }`, 3, "function"}, {`let a = 1; export default a; a = 2;`, 6, "1"}, {`let a = 1; export { a as default }; a = 2;`, 4, "2"},
		{`function f() { return 1; } export default f; f = 2;`, 5, "function"}, {`function f() { return 1; } export { f as default }; f = 2;`, 3, "2"}, {`let default_ = 1; export default default_ + 1;`, 6, "2"},
	} {
		for _, a := range []string{`import d from "./b"; print(d);`, `import { default as q } from "./b"; print(q);`, `import * as n from "./b"; print(n.default);`, `export { default as e } from "./b"; import { e } from "./a"; print(e);`, `import d from "./b"; export default d; import { default as e } from "./a"; print(e);`} {
			at := c.cost + 2
			if strings.Contains(a, "export default") {
				at += 2
			}
			wantGraphCourse(t, linked(t, a, c.b), fmt.Sprintf("%d:%s %d:done", at, c.want, at))
		}
	}
	// Each module has its own, and none reads it by a name of its own.
	wantGraphCourse(t, linked(t, `import b from "./b"; import c from "./c"; import * as me from "./a"; export default b * c; print(me.default); print(b); print(c);`, `export default 3;`, `export default 4;`), `10:12 12:3 14:4 14:done`)
	wantGraphCourse(t, linked(t, `import d from "./a"; print(1); print(d); export default 2;`), `2:1 4:ref`)
	wantGraphCourse(t, linked(t, `import d from "./a"; export default d;`), `2:ref`)
	wantGraphCourse(t, linked(t, `import d from "./a"; export default 2; print(d); d = 3;`), `4:2 6:type`)
}
