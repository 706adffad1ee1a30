package tests

import (
	"math"
	"slices"
	"strconv"
	"strings"
	"testing"

	"loop.example/g00777/impl"
)

func isSameCode(a, b impl.Code) bool {
	return slices.Equal(a.Ins, b.Ins) && slices.Equal(a.Cells, b.Cells) && slices.Equal(a.Entries, b.Entries)
}

// insText is a word for each instruction, with its number where it should have one, or has one.
func insText(l []impl.Ins) string {
	words := strings.Fields("? step num undef load bad call add sub mul let set print throw fail ret end setbad")
	text := []string{}
	for _, ins := range l {
		word := "?"
		if ins.Op > 0 && ins.Op < len(words) {
			word = words[ins.Op]
		}
		if slices.Contains([]string{"num", "load", "let", "set"}, word) || ins.N != 0 {
			word += ":" + strconv.Itoa(ins.N)
		}
		text = append(text, word)
	}
	return strings.Join(text, " ")
}

// cellsText is each cell with its entry.
func cellsText(c impl.Code) string {
	if len(c.Cells) != len(c.Entries) {
		return "not as many entries as cells"
	}
	text := []string{}
	for i, name := range c.Cells {
		text = append(text, name+":"+strconv.Itoa(c.Entries[i]))
	}
	return strings.Join(text, " ")
}

// codeRow is a script, its instructions (a | between two changes nothing), and its cells with their entries.
type codeRow struct{ text, ins, cells string }

// wantCode asks for the code of a script, and for all that is promised of it.
func wantCode(t *testing.T, row codeRow) {
	t.Helper()
	m := mustParse(t, row.text, true)
	c, ok := impl.Compile(m)
	if want := strings.Join(strings.Fields(strings.ReplaceAll(row.ins, "|", " ")), " "); !ok || insText(c.Ins) != want || cellsText(c) != row.cells {
		t.Errorf("Compile of %q is %v:\n%s %s, not\n%s %s", row.text, ok, insText(c.Ins), cellsText(c), want, row.cells)
	}
	wantCodeHeld(t, m)
	wantCodeRun(t, m, math.MaxInt)
}

func wantCodeOfAll(t *testing.T, rows []codeRow) {
	t.Helper()
	for _, row := range rows {
		wantCode(t, row)
	}
}

func TestCodeConstants(t *testing.T) {
	ops := []int{impl.OpStep, impl.OpNum, impl.OpUndef, impl.OpLoad, impl.OpBad, impl.OpCall, impl.OpAdd, impl.OpSub, impl.OpMul, impl.OpLet, impl.OpSet, impl.OpPrint, impl.OpThrow, impl.OpFail, impl.OpRet, impl.OpEnd, impl.OpSetBad}
	for i, op := range ops {
		if op != i+1 {
			t.Errorf("the %d. kind of instructions is %d", i+1, op)
		}
	}
	if len(ops) != 17 || impl.MaxIns != 1000 {
		t.Errorf("there are %d kinds, and %d instructions at most", len(ops), impl.MaxIns)
	}
}

func TestCodeOfEachStatement(t *testing.T) {
	wantCodeOfAll(t, []codeRow{
		{``, `end`, ``},
		{`let a = 7;`, `step step num:7 let:0 | end`, `a:-1`},
		{`function f() { return 7; }`, `step | end | step num:7 ret`, `f:2`},
		{`let a = 1; a = 2;`, `step step num:1 let:0 | step step num:2 set:0 | end`, `a:-1`},
		{`function f() { return 1; } f = 2;`, `step | step step num:2 set:0 | end | step num:1 ret`, `f:6`},
		{`print(7);`, `step step num:7 print | end`, ``},
		{`throw 7;`, `step step num:7 throw | end`, ``},
		{`fail 7;`, `step step num:7 fail | end`, ``},
		{`a = 7;`, `step step num:7 setbad | end`, ``},
		// One behind the other, each to the end of it, also where no way leads there.
		{`print(1); print(2); throw 3; fail 4;`, `step step num:1 print | step step num:2 print | step step num:3 throw | step step num:4 fail | end`, ``},
		{`throw 1; print(2); let a = 3;`, `step step num:1 throw | step step num:2 print | step step num:3 let:0 | end`, `a:-1`},
		{`let a = 1; let b = 2; let c = 3; b = 4; c = 5; a = 6;`, `step step num:1 let:0 | step step num:2 let:1 | step step num:3 let:2 | step step num:4 set:1 | step step num:5 set:2 | step step num:6 set:0 | end`, `a:-1 b:-1 c:-1`},
	})
}

func TestCodeOfEachExpression(t *testing.T) {
	rows := []codeRow{
		{`0`, `step num:0`, ``}, {`1000000`, `step num:1000000`, ``}, {`((7))`, `step num:7`, ``},
		{`a`, `step load:0`, ``}, {`a()`, `step load:0 call`, ``}, {`f`, `step load:1`, ``}, {`f()`, `step load:1 call`, ``},
		{`undef`, `step undef`, ``}, {`undef()`, `step undef call`, ``}, {`none`, `step bad`, ``}, {`none()`, `step bad call`, ``},
		{`1 + 2`, `step step num:1 step num:2 add`, ``}, {`1 - 2`, `step step num:1 step num:2 sub`, ``}, {`1 * 2`, `step step num:1 step num:2 mul`, ``},
		// The lower one is on the left, however they hang together.
		{`1 - 2 - 3`, `step step step num:1 step num:2 sub step num:3 sub`, ``}, {`1 - (2 - 3)`, `step step num:1 step step num:2 step num:3 sub sub`, ``},
		{`1 + 2 * 3`, `step step num:1 step step num:2 step num:3 mul add`, ``}, {`(1 + 2) * 3`, `step step step num:1 step num:2 add step num:3 mul`, ``}, {`1 * 2 + 3`, `step step step num:1 step num:2 mul step num:3 add`, ``}, {`(1 - 2) * (3 + 4)`, `step step step num:1 step num:2 sub step step num:3 step num:4 add mul`, ``}, {`1 * (2 * 3)`, `step step num:1 step step num:2 step num:3 mul mul`, ``},
		{`a + f() * none`, `step step load:0 step step load:1 call step bad mul add`, ``}, {`undef - none() + f`, `step step step undef step bad call sub step load:1 add`, ``}, {`f() + f() - a()`, `step step step load:1 call step load:1 call add step load:0 call sub`, ``},
	}
	for _, row := range rows {
		ahead, behind := `let a = 5; function f() { return 6; }`, `step step num:5 let:0 | step |`
		n := len(strings.Fields(row.ins))
		// Behind those ahead stand the first step of the statement, its expression, what takes it, and the end.
		entry := 5 + 1 + n + 1 + 1
		for form, op := range map[string]string{"print(E);": "print", "throw E;": "throw", "fail E;": "fail", "a = E;": "set:0", "f = E;": "set:1", "none = E;": "setbad"} {
			wantCode(t, codeRow{ahead + strings.Replace(form, "E", row.text, 1), behind + `step ` + row.ins + ` ` + op + ` | end | step num:6 ret`, `a:-1 f:` + strconv.Itoa(entry)})
		}
		wantCode(t, codeRow{ahead + `let b = ` + row.text + `;`, behind + `step ` + row.ins + ` let:2 | end | step num:6 ret`, `a:-1 f:` + strconv.Itoa(entry) + ` b:-1`})
		wantCode(t, codeRow{ahead + `function g() { return ` + row.text + `; }`, behind + `step | end | step num:6 ret | ` + row.ins + ` ret`, `a:-1 f:7 g:10`})
		wantCode(t, codeRow{`function a() { return ` + row.text + `; } function f() { return 6; } print(a() + 1);`, `step | step | step step step load:0 call step num:1 add print | end | ` + row.ins + ` ret | step num:6 ret`, `a:12 f:` + strconv.Itoa(12+n+1)})
	}
}

func TestCodeOfNamesAheadOfTheirPlace(t *testing.T) {
	wantCodeOfAll(t, []codeRow{
		{`print(a); let a = 1;`, `step step load:0 print | step step num:1 let:0 | end`, `a:-1`},
		{`print(a()); let a = 1;`, `step step load:0 call print | step step num:1 let:0 | end`, `a:-1`},
		{`a = 2; let a = 1;`, `step step num:2 set:0 | step step num:1 let:0 | end`, `a:-1`},
		{`let a = a;`, `step step load:0 let:0 | end`, `a:-1`}, {`let a = b; let b = a;`, `step step load:1 let:0 | step step load:0 let:1 | end`, `a:-1 b:-1`},
		{`throw last; let first = 1; let last = 2;`, `step step load:1 throw | step step num:1 let:0 | step step num:2 let:1 | end`, `first:-1 last:-1`},
		{`print(f()); function f() { return a; } let a = 1; print(f());`, `step step load:0 call print | step | step step num:1 let:1 | step step load:0 call print | end | step load:1 ret`, `f:16 a:-1`},
		{`f = 1; print(f); function f() { return 2; }`, `step step num:1 set:0 | step step load:0 print | step | end | step num:2 ret`, `f:10`},
		// The order is that of the statements, not that of the bytes.
		{`let z = 1; let y = z; let x = y; print(x - y - z);`, `step step num:1 let:0 | step step load:0 let:1 | step step load:1 let:2 | step step step step load:2 step load:1 sub step load:0 sub print | end`, `z:-1 y:-1 x:-1`},
		// Of what a name is a beginning, or what differs in a letter's size, is another one.
		{`let a = 1; let aa = 2; let A = 3; let a$ = 4; print(a$ - A - aa - a); aA = a;`, `step step num:1 let:0 | step step num:2 let:1 | step step num:3 let:2 | step step num:4 let:3 | step step step step step load:3 step load:2 sub step load:1 sub step load:0 sub print | step step load:0 setbad | end`, `a:-1 aa:-1 A:-1 a$:-1`},
	})
}

func TestCodeOfFunctions(t *testing.T) {
	wantCodeOfAll(t, []codeRow{
		{`function f() { return 1; } function g() { return 2; } function h() { return 3; }`, `step step step | end | step num:1 ret | step num:2 ret | step num:3 ret`, `f:4 g:7 h:10`},
		// Statements stand between them: what is told behind the end is not.
		{`function f() { return 1; } print(f()); function g() { return f() + 1; } print(g()); let a = g; function h() { return a(); } print(h());`,
			`step | step step load:0 call print | step | step step load:1 call print | step step load:1 let:2 | step | step step load:3 call print | end | step num:1 ret | step step load:0 call step num:1 add ret | step load:2 call ret`, `f:23 g:26 a:-1 h:34`},
		{`let a = 1; function f() { return a; } let b = 2; function g() { return b; } a = f() - g();`, `step step num:1 let:0 | step | step step num:2 let:2 | step | step step step load:1 call step load:3 call sub set:0 | end | step load:0 ret | step load:2 ret`, `a:-1 f:21 b:-1 g:24`},
		// They call each other, and themselves.
		{`function f() { return g(); } function g() { return f(); } print(f());`, `step step | step step load:0 call print | end | step load:1 call ret | step load:0 call ret`, `f:8 g:12`},
		{`function f() { return f; } function g() { return g() * 2; } print(f()); print(g());`, `step step | step step load:0 call print | step step load:1 call print | end | step load:0 ret | step step load:1 call step num:2 mul ret`, `f:13 g:16`},
		{`print(one() - two()); function two() { return one() * three; } let three = 3; function one() { return 1; } print(two() - one());`,
			`step step step load:2 call step load:0 call sub print | step | step step num:3 let:1 | step | step step step load:0 call step load:2 call sub print | end | step step load:2 call step load:1 mul ret | step num:1 ret`, `two:27 three:-1 one:35`},
		{`function f() { return undef; } function g() { return none; } function h() { return none() + undef(); } print(f());`, `step step step | step step load:0 call print | end | step undef ret | step bad ret | step step bad call step undef call add ret`, `f:9 g:12 h:15`},
		// What has been a function has its entry all the same, and what becomes one has none.
		{`function f() { return 1; } let g = f; f = g(); print(g() + f); g = 2; throw g;`, `step | step step load:0 let:1 | step step load:1 call set:0 | step step step load:1 call step load:0 add print | step step num:2 set:1 | step step load:1 throw | end | step num:1 ret`, `f:28 g:-1`},
	})
}

func TestCodeOfNamesThatAreNotDeclared(t *testing.T) {
	wantCodeOfAll(t, []codeRow{
		{`print(a);`, `step step bad print | end`, ``}, {`print(a());`, `step step bad call print | end`, ``}, {`a = 1;`, `step step num:1 setbad | end`, ``}, {`a = a;`, `step step bad setbad | end`, ``}, {`a = a();`, `step step bad call setbad | end`, ``},
		{`let a = b; b = a;`, `step step bad let:0 | step step load:0 setbad | end`, `a:-1`}, {`function f() { return a() - b; } f = b;`, `step | step step bad set:0 | end | step step bad call step bad sub ret`, `f:6`},
		{`let a = 1; b = a + b; b = 2; throw b;`, `step step num:1 let:0 | step step step load:0 step bad add setbad | step step num:2 setbad | step step bad throw | end`, `a:-1`},
		// Of these words a script has only undef; what looks like it is another name.
		{`print(undefined); print(undef$); Undef = undef_;`, `step step bad print | step step bad print | step step bad setbad | end`, ``}, {`let undef$ = undef; print(undef$());`, `step step undef let:0 | step step load:0 call print | end`, `undef$:-1`},
		{`print(undef); print(undef()); throw undef + undef;`, `step step undef print | step step undef call print | step step step undef step undef add throw | end`, ``}, {`fail undef; function f() { return undef(); } let a = undef;`, `step step undef fail | step | step step undef let:1 | end | step undef call ret`, `f:10 a:-1`},
		{`let as = 1; let from = 2; print(as - from - of);`, `step step num:1 let:0 | step step num:2 let:1 | step step step step load:0 step load:1 sub step bad sub print | end`, `as:-1 from:-1`},
	})
	// It can be written neither in a text nor by hand.
	for _, m := range []impl.Mod{mustParse(t, `undef = 1;`, false), mustParse(t, `let undef = 1;`, false), mustParse(t, `function undef() { return undef; }`, false)} {
		wantNoCode(t, dump(m), m)
	}
}

func TestCodeKeepsWhatScriptsDo(t *testing.T) {
	for _, c := range []twin{
		{`let one = 1; print(one); one = one + 1; print(one); throw one;`, `4:1 10:2 12:throw:2`}, {`print(1); print(2);`, `2:1 4:2 4:done`}, {``, `0:done`},
		{`function f() { return x; } let x = 1; let y = f(); x = 2; print(y); print(f()); print(f);`, `10:1 13:2 15:function 15:done`},
		{`print(1); print(a); let a = 1;`, `2:1 4:ref`}, {`print(1); let a = b; let b = 1;`, `2:1 4:ref`}, {`print(1); a = 2; let a = 1;`, `2:1 4:ref`}, {`let a = 1; print(a); print(none); print(2);`, `4:1 6:ref`}, {`let a = 1; print(a); none = a; print(2);`, `4:1 6:ref`}, {`print(1); print(none()); print(2);`, `2:1 4:ref`}, {`print(1); print(a()); let a = 1;`, `2:1 4:ref`},
		{`print(undef); print(undef()); print(1);`, `2:undefined 4:type`}, {`print(1); throw undef;`, `2:1 4:throw:undefined`}, {`let f = 1; print(f); print(f()); print(2);`, `4:1 6:type`}, {`let a = undef; print(a); print(a + 1);`, `4:undefined 8:type`}, {`let a = 1000000; print(a); print(a + 1);`, `4:1000000 8:range`}, {`let a = 3; print(a); fail a; print(a);`, `4:3 6:type`},
		{`function f() { return f(); } print(0); print(f());`, `3:0 35:range`}, {`function f() { return f() + f(); } print(0); print(f());`, `3:0 65:range`}, {`function f() { return 1; } let g = f; print(g()); g = 2; throw g();`, `6:1 10:type`}, {`function f() { return 5 - x; } let x = 7; throw f() * f();`, `13:throw:4`}, {`print(f() + g()); function f() { return 1; } function g() { return 2; }`, `6:3 8:done`},
		{`function f() { return 1; } f = f + 1; print(f);`, `5:type`}, {`function f() { return 1; } f = f(); print(f); f = f();`, `6:1 8:type`}, {`print(3 - 5 - 7); print(3 - (5 - 7)); print((0 - 3) * (2 - 9));`, `6:-9 12:5 20:21 20:done`},
	} {
		wantScriptCourse(t, c.text, c.course)
		m, course := mustParse(t, c.text, true), courseOf(c.course)
		code, ok := impl.Compile(m)
		if !ok {
			t.Fatalf("%q is not compiled", c.text)
		}
		wantEachFuel(t, "the code of "+c.text, func(fuel int) impl.Trace { return plainMachine(code, fuel) }, course, math.MaxInt)
		wantCodeHeld(t, m)
		wantCodeRun(t, m, math.MaxInt)
	}
}

// wantNoCode asks that a program is not compiled.
func wantNoCode(t *testing.T, what string, m impl.Mod) {
	t.Helper()
	if c, ok := impl.Compile(m); ok || !isSameCode(c, impl.Code{}) {
		t.Errorf("Compile with %s is %+v, %v", what, c, ok)
	}
	wantCodeHeld(t, m)
}

func TestCodeOfModules(t *testing.T) {
	for _, text := range moduleTexts() {
		wantNoCode(t, text, mustParse(t, text, false))
	}
	wantNoCode(t, "all that a module has", okModule(t))
	wantNoCode(t, "as much as may be", fullMod())
	// What is a program of either kind is one of a script.
	for text, ins := range map[string]string{`let one = 1; print(one);`: `step step num:1 let:0 step step load:0 print end`, `print(undef); function fails() { return two; }`: `step step undef print step end step bad ret`} {
		if c, ok := impl.Compile(mustParse(t, text, false)); !ok || insText(c.Ins) != ins {
			t.Errorf("Compile of %q is %v: %s", text, ok, insText(c.Ins))
		}
	}
}

func TestCodeWithEarlyErrors(t *testing.T) {
	for text := range earlyScripts() {
		wantNoCode(t, text, mustParse(t, text, true))
	}
}

func TestCodeOfProgramsThatAreNotRight(t *testing.T) {
	wantCode(t, codeRow{changedText, `step step step num:1 step num:2 add let:0 | step | step step load:1 call set:0 | step step num:7 print | step step load:0 throw | end | step step load:0 step bad mul ret`, `one:-1 two:23`})
	for what, change := range wrongChanges() {
		m := mustParse(t, changedText, true)
		change(&m)
		wantNoCode(t, what, m)
	}
	for what, m := range oddMods() {
		if !impl.ModOk(m, true) {
			wantNoCode(t, what, m)
		} else if c, ok := impl.Compile(m); !ok || insText(c.Ins) != "end" || cellsText(c) != "" {
			t.Errorf("Compile with %s is %+v, %v", what, c, ok)
		}
		wantCodeHeld(t, m)
	}
	if c, ok := impl.Compile(impl.Mod{}); !ok || !isSameCode(c, impl.Code{Ins: []impl.Ins{{Op: impl.OpEnd}}}) {
		t.Errorf("Compile of the zero Mod, a script without a statement, is %+v, %v", c, ok)
	}
}

// greatestText has statements of a form each, the first one of calls as many as there is room for, so that there are exprs Exprs.
func greatestText(form string, stmts, exprs int) string {
	text := strings.Replace(form, "E", "f()"+strings.Repeat(" - f()", (exprs-stmts)/2), 1)
	for i := range stmts - 1 {
		text += strings.NewReplacer("E", "f()", "N", "f"+strconv.Itoa(i)).Replace(form)
	}
	return strings.Replace(text, "N", "f", 1)
}

// Of how many instructions code can be: no script has as many as MaxIns.
func TestCodeOfTheGreatestScripts(t *testing.T) {
	greatest := 0
	for stmts := 1; stmts <= impl.MaxStmts; stmts++ {
		exprs := impl.MaxExprs - stmts%2
		for _, form := range []string{`N = E;`, `let N = E;`, `function N() { return E; }`, `print(E);`, `throw E;`, `fail E;`} {
			m := mustParse(t, greatestText(form, stmts, exprs), true)
			if len(m.Stmts) != stmts || len(m.Exprs) != exprs {
				t.Fatalf("there are %d statements and %d Exprs, not %d and %d", len(m.Stmts), len(m.Exprs), stmts, exprs)
			}
			c, ok := impl.Compile(m)
			// Beside the end, each statement has two, each sum two, each call three.
			calls := (exprs + stmts) / 2
			if want := 1 + 2*stmts + 2*(exprs-calls) + 3*calls; !ok || len(c.Ins) != want {
				t.Fatalf("%d statements and %d Exprs as %q are %v, %d instructions, not %d", stmts, exprs, form, ok, len(c.Ins), want)
			}
			greatest = max(greatest, len(c.Ins))
			if stmts%13 == 1 || stmts == impl.MaxStmts {
				wantCodeHeld(t, m)
				wantCodeRun(t, m, 4)
			}
		}
	}
	if greatest != 951 {
		t.Errorf("the greatest one has %d instructions", greatest)
	}
	// As many instructions as may be, one fewer and one more has only what has too many Exprs, and is no script.
	for n, calls := range map[int]int{999: 198, 1000: 199, 1001: 200} {
		m := tooGreat(t, append(slices.Repeat([]string{"f()"}, calls), slices.Repeat([]string{"1"}, 200-calls)...))
		if got := 1 + 2*len(m.Stmts) + 2*len(m.Exprs) + callsIn(m); got != n {
			t.Fatalf("there would be %d instructions, not %d", got, n)
		}
		wantNoCode(t, strconv.Itoa(n)+" instructions", m)
	}
}

func callsIn(m impl.Mod) int {
	n := 0
	for _, x := range m.Exprs {
		if x.Kind == impl.ExCall {
			n++
		}
	}
	return n
}

// tooGreat prints a sum of more sides than Parse takes.
func tooGreat(t *testing.T, sides []string) impl.Mod {
	t.Helper()
	m := impl.Mod{}
	for i, side := range sides {
		m.Exprs = append(m.Exprs, mustParse(t, "print("+side+");", true).Exprs...)
		if i > 0 {
			m.Exprs = append(m.Exprs, impl.Expr{Kind: impl.ExAdd, L: len(m.Exprs) - 2, R: len(m.Exprs) - 1})
		}
	}
	m.Stmts = []impl.Stmt{{Kind: impl.StPrint, Expr: len(m.Exprs) - 1}}
	if impl.Print(m, true) != "print("+strings.Join(sides, " + ")+");\n" || impl.ModOk(m, true) || len(m.Exprs) <= impl.MaxExprs {
		t.Fatalf("%+v is not what the test stands on", m)
	}
	return m
}

func TestCodeAtTheLimits(t *testing.T) {
	wantCode(t, codeRow{`print(` + strings.Repeat(`1 - `, 149) + `1);`, `step ` + strings.Repeat(`step `, 150) + `num:1 ` + strings.Repeat(`step num:1 sub `, 149) + `print end`, ``})
	open, closed := strings.Repeat("1 - (", impl.MaxDepth), strings.Repeat(")", impl.MaxDepth)
	wantCode(t, codeRow{`throw ` + open + `2 - 3` + closed + `;`, `step ` + strings.Repeat(`step step num:1 `, impl.MaxDepth) + `step step num:2 step num:3 ` + strings.Repeat(`sub `, impl.MaxDepth+1) + `throw end`, ``})
	// As many cells as there may be: each reads the one ahead of it.
	row := codeRow{`let n0 = 9;`, `step step num:9 let:0 | `, `n0:-1`}
	for i := 1; i < impl.MaxStmts; i++ {
		before, now := strconv.Itoa(i-1), strconv.Itoa(i)
		row = codeRow{row.text + `let n` + now + ` = n` + before + `;`, row.ins + `step step load:` + before + ` let:` + now + ` | `, row.cells + ` n` + now + `:-1`}
	}
	row.ins += `end`
	wantCode(t, row)
	row = codeRow{}
	for i := range impl.MaxStmts {
		// It calls the one behind it, and the last one the first one.
		next := strconv.Itoa((i + 1) % impl.MaxStmts)
		row.text += `function f` + strconv.Itoa(i) + `() { return f` + next + `(); }`
		row.ins += ` step load:` + next + ` call ret`
		row.cells += ` f` + strconv.Itoa(i) + `:` + strconv.Itoa(impl.MaxStmts+1+4*i)
	}
	wantCode(t, codeRow{row.text, strings.Repeat(`step `, impl.MaxStmts) + `end` + row.ins, strings.TrimSpace(row.cells)})
	// A name of more bytes than a module may have.
	name := strings.Repeat("x", impl.MaxText+1)
	wantCode(t, codeRow{`let ` + name + ` = 1; print(` + name + ` - ` + name + `x); ` + name + ` = 2;`, `step step num:1 let:0 | step step step load:0 step bad sub print | step step num:2 set:0 | end`, name + `:-1`})
	// As many functions inside of each other as there may be, and one more.
	for n, end := range map[int]int{29: impl.TrDone, 30: impl.TrRange} {
		text := `function f0() { return one; } let one = 1;`
		for i := 1; i <= n; i++ {
			text += strings.NewReplacer("N", strconv.Itoa(i), "M", strconv.Itoa(i-1)).Replace(`function fN() { return fM() + one; }`)
		}
		m := mustParse(t, text+"print(f"+strconv.Itoa(n)+"());", true)
		wantCodeHeld(t, m)
		if got := wantCodeRun(t, m, math.MaxInt); got.End != end {
			t.Errorf("%d functions inside of each other tell %v", n, got)
		}
	}
	// As many steps as there may be, and more.
	for _, steps := range []int{impl.MaxFuel - 1, impl.MaxFuel, impl.MaxFuel + 1, 2 * impl.MaxFuel} {
		m := mustParse(t, costing(steps), true)
		wantCodeHeld(t, m)
		c, _ := impl.Compile(m)
		for _, fuel := range append(oddFuels(), 0, 1, 14, 15, 16, 1000, impl.MaxFuel-2, impl.MaxFuel-1) {
			if got, want := plainMachine(c, fuel), impl.RunScript(m, fuel); !isSameTrace(got, want) {
				t.Errorf("with %d steps of %d it tells %d and %d lines, not %d and %d", fuel, steps, got.End, len(got.Out), want.End, len(want.Out))
			}
		}
	}
}

func TestNamed(t *testing.T) {
	compiled := func(text string) impl.Code {
		c, ok := impl.Compile(mustParse(t, text, true))
		if !ok {
			t.Fatalf("%q is not compiled", text)
		}
		return c
	}
	big := compiled(declaring(impl.MaxStmts, func(i int) string { return `let N = M;` }, func(i int) string { return "n" + strconv.Itoa(i) }))
	for i := range impl.MaxStmts {
		if got := impl.Named(big, "n"+strconv.Itoa(i)); got != i {
			t.Errorf("n%d is cell %d", i, got)
		}
	}
	small := compiled(`let a = none; function b() { return a; } let $c = undef; free = b; print($c + free());`)
	cells := func(names ...string) impl.Code { return impl.Code{Cells: names} }
	for _, row := range []struct {
		c    impl.Code
		name string
		want int
	}{
		{small, "a", 0}, {small, "b", 1}, {small, "$c", 2}, {small, "none", -1}, {small, "free", -1}, {small, "undef", -1}, {small, "", -1}, {small, "A", -1}, {small, "c", -1}, {small, "$", -1}, {small, "$cc", -1}, {small, "aa", -1}, {small, "a ", -1}, {small, "a\x00", -1}, {small, "0", -1},
		{big, "n", -1}, {big, "n80", -1}, {big, "n00", -1}, {big, "n7 ", -1}, {big, "N7", -1},
		{impl.Code{}, "a", -1}, {impl.Code{}, "", -1}, {compiled(``), "a", -1}, {compiled(`print(a);`), "a", -1}, {impl.Code{Cells: []string{}}, "", -1},
		// Of two cells of one name it is the first one.
		{cells("a", "a"), "a", 0}, {cells("b", "a", "a"), "a", 1}, {cells("a", "b", "a"), "a", 0}, {cells("a", "b", "a"), "b", 1}, {cells("x", "b", "a", "b", "a"), "b", 1}, {cells("a", "a"), "b", -1},
		// Whatever cells are called, and whatever else there is.
		{cells(""), "", 0}, {cells("a", ""), "", 1}, {cells("", ""), "", 0}, {cells("\xff", "\xfe"), "\xfe", 1}, {cells("a b", "1", "*default"), "*default", 2}, {cells("a b", "1", "let"), "1", 1}, {cells("ä", "a"), "\xc3", -1},
		{impl.Code{Ins: []impl.Ins{{Op: 99, N: -1}}, Cells: []string{"a", "b"}, Entries: []int{7}}, "b", 1}, {impl.Code{Ins: []impl.Ins{{Op: impl.OpLoad, N: 5}}, Entries: []int{1, 2, 3}}, "a", -1}, {impl.Code{Cells: []string{"a", "b", "c"}[:1]}, "b", -1},
	} {
		if got := impl.Named(row.c, row.name); got != row.want {
			t.Errorf("Named of %q in %q is %d, not %d", row.name, row.c.Cells, got, row.want)
		}
	}
	many := impl.Code{Cells: slices.Repeat([]string{"a"}, 1<<16)}
	many.Cells[1<<16-1] = "b"
	if got := impl.Named(many, "b"); got != 1<<16-1 {
		t.Errorf("the last one of many is %d", got)
	}
}

func TestNamedDoesNotWriteIntoCode(t *testing.T) {
	c, _ := impl.Compile(mustParse(t, changedText, true))
	spare := impl.Code{Ins: append(slices.Clone(c.Ins), impl.Ins{Op: 77})[:len(c.Ins)], Cells: append(slices.Clone(c.Cells), "spare")[:len(c.Cells)], Entries: append(slices.Clone(c.Entries), 77)[:len(c.Entries)]}
	for i, name := range []string{"one", "two", "spare", "", "three"} {
		if got := impl.Named(spare, name); got != []int{0, 1, -1, -1, -1}[i] {
			t.Errorf("Named of %q is %d", name, got)
		}
	}
	if !isSameCode(spare, c) || spare.Ins[:len(c.Ins)+1][len(c.Ins)].Op != 77 || spare.Cells[:3][2] != "spare" || spare.Entries[:3][2] != 77 {
		t.Errorf("an argument is written into: %+v", spare)
	}
}

// wantCodeApart asks that the lists of a code share memory with none of the others, nor with each other.
func wantCodeApart(t *testing.T, c impl.Code, m impl.Mod, others ...impl.Code) {
	t.Helper()
	ahead, texts := spansOf(impl.Graph{Mods: []impl.Mod{m}}), slices.Concat(textsOfLists(m)...)
	for _, other := range others {
		ahead, texts = append(ahead, spanOf(other.Ins), spanOf(other.Cells), spanOf(other.Entries)), append(texts, other.Cells...)
	}
	for _, own := range []span{spanOf(c.Ins), spanOf(c.Cells), spanOf(c.Entries)} {
		for _, other := range ahead {
			if own.from < other.end && other.from < own.end && own.from < own.end && other.from < other.end {
				t.Errorf("two lists share memory: %v, %v", own, other)
			}
		}
		ahead = append(ahead, own)
	}
	for i, name := range c.Cells {
		wantOwnText(t, name, append(slices.Clone(texts), c.Cells[:i]...)...)
	}
}

func TestCodeIsNewMemory(t *testing.T) {
	for _, text := range []string{`let aa = 1 + bb; function $bb() { return aa * (dd() + 4); } aa = $bb() + aa; print(undef - aa); throw aa - $bb; bb = $bb();`, changedText, ``, `print(1);`, `let xx = 1; let yy = xx; let zz = yy;`} {
		m := mustParse(t, text, true)
		first, _ := impl.Compile(m)
		second, _ := impl.Compile(m)
		if !isSameCode(first, second) || len(first.Ins) == 0 {
			t.Fatalf("Compile is %+v and %+v", first, second)
		}
		wantCodeApart(t, first, m, second)
		before := impl.Code{Ins: slices.Clone(second.Ins), Cells: slices.Clone(second.Cells), Entries: slices.Clone(second.Entries)}
		clear(first.Ins[:cap(first.Ins)])
		clear(first.Cells[:cap(first.Cells)])
		clear(first.Entries[:cap(first.Entries)])
		if third, _ := impl.Compile(m); !isSameCode(second, before) || !isSameCode(third, before) {
			t.Error("an answer is kept")
		}
	}
}
