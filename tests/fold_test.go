package tests

import (
	"math"
	"slices"
	"strconv"
	"strings"
	"testing"

	"loop.example/g00777/impl"
)

// noNumbers are numbers of no Expr of a program.
func noNumbers(m impl.Mod) []int {
	return []int{-1, -2, math.MinInt, len(m.Exprs), len(m.Exprs) + 1, impl.MaxExprs + len(m.Exprs), math.MaxInt}
}

// wantKnown asks for what is known of each Expr, with a blank between: a number, or ? where nothing is.
func wantKnown(t *testing.T, what string, m impl.Mod, known string) {
	t.Helper()
	words := strings.Fields(known)
	if len(words) != len(m.Exprs) {
		t.Fatalf("%s has %d Exprs, not those of %q", what, len(m.Exprs), known)
	}
	for i, word := range words {
		n, is := impl.Known(m, i)
		if word == "?" {
			if n != 0 || is {
				t.Errorf("%s: Known of %d is %d, %v, and should be nothing", what, i, n, is)
			}
		} else if strconv.Itoa(n) != word || !is {
			t.Errorf("%s: Known of %d is %d, %v, not %s", what, i, n, is, word)
		}
	}
	for _, i := range noNumbers(m) {
		if n, is := impl.Known(m, i); n != 0 || is {
			t.Errorf("%s: Known of %d is %d, %v, but there is no such Expr", what, i, n, is)
		}
	}
}

// wantFolded asks for the text of a script that is folded, and for all that is promised of it.
func wantFolded(t *testing.T, text, known, want string) {
	t.Helper()
	m := mustParse(t, text, true)
	wantKnown(t, text, m, known)
	if got := impl.Print(impl.Fold(m), true); got != impl.Print(mustParse(t, want, true), true) {
		t.Errorf("Fold of %q is %q, not %q", text, got, want)
	}
	wantFoldHeld(t, m)
}

// foldRow is an expression, what is known of its Exprs, and the expression that is folded.
type foldRow struct{ text, known, folded string }

// wantFoldedAll asks for them as the expression of each statement.
func wantFoldedAll(t *testing.T, rows []foldRow) {
	t.Helper()
	for _, c := range rows {
		for _, form := range []string{"print(E);", "let b = E;", "function f() { return E; }", "b = E;", "throw E;", "fail E;"} {
			wantFolded(t, strings.ReplaceAll(form, "E", c.text), c.known, strings.ReplaceAll(form, "E", c.folded))
		}
	}
}

func TestFoldOfNumbers(t *testing.T) {
	wantFoldedAll(t, []foldRow{
		{`0`, `0`, `0`}, {`7`, `7`, `7`}, {`1000000`, `1000000`, `1000000`}, {`((3))`, `3`, `3`},
		{`1 + 2`, `1 2 3`, `3`}, {`5 - 2`, `5 2 3`, `3`}, {`2 * 3`, `2 3 6`, `6`}, {`0 + 0`, `0 0 0`, `0`}, {`3 - 3`, `3 3 0`, `0`}, {`0 - 0`, `0 0 0`, `0`}, {`0 * 5`, `0 5 0`, `0`}, {`5 * 0`, `5 0 0`, `0`},
		{`1 + 2 + 3`, `1 2 3 3 6`, `6`}, {`9 - 2 - 3`, `9 2 7 3 4`, `4`}, {`9 - (2 - 1)`, `9 2 1 1 8`, `8`}, {`2 * 3 * 4`, `2 3 6 4 24`, `24`}, {`2 * (3 * 4)`, `2 3 4 12 24`, `24`},
		{`1 + 2 * 3`, `1 2 3 6 7`, `7`}, {`(1 + 2) * 3`, `1 2 3 3 9`, `9`}, {`2 * 3 + 4 * 5`, `2 3 6 4 5 20 26`, `26`}, {`(2 + 3) * (4 - 1) - 15`, `2 3 5 4 1 3 15 15 0`, `0`},
	})
}

func TestFoldBelowWhatIsNotKnown(t *testing.T) {
	wantFoldedAll(t, []foldRow{
		{`a`, `?`, `a`}, {`a()`, `?`, `a()`}, {`undef`, `?`, `undef`}, {`undef()`, `?`, `undef()`}, {`n.a`, `?`, `n.a`}, {`n.a()`, `?`, `n.a()`},
		// One side is known: it stays what it is, and what is on the other side of it, too.
		{`a + 1`, `? 1 ?`, `a + 1`}, {`1 + a`, `1 ? ?`, `1 + a`}, {`a() * 0`, `? 0 ?`, `a() * 0`}, {`0 * a`, `0 ? ?`, `0 * a`}, {`a - a`, `? ? ?`, `a - a`}, {`undef - 1`, `? 1 ?`, `undef - 1`}, {`1 * n.a`, `1 ? ?`, `1 * n.a`}, {`n.a() + 0`, `? 0 ?`, `n.a() + 0`},
		{`a + (1 + 2)`, `? 1 2 3 ?`, `a + 3`}, {`1 + 2 + a`, `1 2 3 ? ?`, `3 + a`}, {`a - 2 * 3`, `? 2 3 6 ?`, `a - 6`}, {`(9 - 2) * a()`, `9 2 7 ? ?`, `7 * a()`}, {`a * (5 - 5)`, `? 5 5 0 ?`, `a * 0`}, {`(1 + 2) * (3 + 4 - a)`, `1 2 3 3 4 7 ? ? ?`, `3 * (7 - a)`},
		// What stands from the left is not put together otherwise.
		{`a + 1 + 2`, `? 1 ? 2 ?`, `a + 1 + 2`}, {`1 + a + 2`, `1 ? ? 2 ?`, `1 + a + 2`}, {`a * 2 * 3`, `? 2 ? 3 ?`, `a * 2 * 3`}, {`a - 1 + 1`, `? 1 ? 1 ?`, `a - 1 + 1`}, {`1 - (a - 1)`, `1 ? 1 ? ?`, `1 - (a - 1)`},
		{`(1 + 1) * (2 + 2) + a * (3 + 3) - (4 + 4) * 2`, `1 1 2 2 2 4 8 ? 3 3 6 ? ? 4 4 8 2 16 ?`, `8 + a * 6 - 16`}, {`a + (1 + (2 + (b + (3 + 4 * 5))))`, `? 1 2 ? 3 4 5 20 23 ? ? ? ?`, `a + (1 + (2 + (b + 23)))`},
		// ( ) go where there is a number instead.
		{`a * (1 + 2)`, `? 1 2 3 ?`, `a * 3`}, {`a - (b + (1 + 2))`, `? ? 1 2 3 ? ?`, `a - (b + 3)`}, {`(a + (3 - 1)) * (2 * (1 + 1))`, `? 3 1 2 ? 2 1 1 2 4 ?`, `(a + 2) * 4`},
	})
}

func TestFoldBelowZero(t *testing.T) {
	wantFoldedAll(t, []foldRow{
		{`1 - 3`, `1 3 -2`, `1 - 3`}, {`0 - 1`, `0 1 -1`, `0 - 1`}, {`(1 - 3) * 2`, `1 3 -2 2 -4`, `(1 - 3) * 2`}, {`1 - 3 + 1`, `1 3 -2 1 -1`, `1 - 3 + 1`}, {`1 - 3 - 4`, `1 3 -2 4 -6`, `1 - 3 - 4`}, {`1 - (4 - 2) - 3`, `1 4 2 2 -1 3 -4`, `1 - 2 - 3`},
		// What is from 0 on again is a number, with all below it.
		{`1 - 3 + 2`, `1 3 -2 2 0`, `0`}, {`1 - 3 + 5`, `1 3 -2 5 3`, `3`}, {`5 + (1 - 3)`, `5 1 3 -2 3`, `3`}, {`1 - (1 - 3)`, `1 1 3 -2 3`, `3`}, {`(1 - 3) * (2 - 9)`, `1 3 -2 2 9 -7 14`, `14`}, {`1 - 3 - (1 - 3)`, `1 3 -2 1 3 -2 0`, `0`}, {`(1 + 1 - 3) * (0 - 1)`, `1 1 2 3 -1 0 1 -1 1`, `1`},
		// 0 has no sign.
		{`0 * (1 - 3)`, `0 1 3 -2 0`, `0`}, {`(1 - 3) * 0`, `1 3 -2 0 0`, `0`}, {`a * (0 * (1 - 3))`, `? 0 1 3 -2 0 ?`, `a * 0`}, {`a - (0 - 0) * (0 - 1)`, `? 0 0 0 0 1 -1 0 ?`, `a - 0`},
		// What lies in what is below 0 is folded all the same.
		{`1 + 1 - 3`, `1 1 2 3 -1`, `2 - 3`}, {`1 - (2 + 3)`, `1 2 3 5 -4`, `1 - 5`}, {`(1 - 3) * (2 + 7)`, `1 3 -2 2 7 9 -18`, `(1 - 3) * 9`}, {`(2 + 7) * (1 - 3)`, `2 7 9 1 3 -2 -18`, `9 * (1 - 3)`}, {`2 * 3 - 4 * 5`, `2 3 6 4 5 20 -14`, `6 - 20`}, {`1 + 1 - 3 - 4 * 5`, `1 1 2 3 -1 4 5 20 -21`, `2 - 3 - 20`},
		{`1 - 3 + 2 - (4 - 8 + 5)`, `1 3 -2 2 0 4 8 -4 5 1 -1`, `0 - 1`}, {`0 - (0 - (0 - (1 + 1)))`, `0 0 0 1 1 2 -2 2 -2`, `0 - 2`},
		{`a + (1 - 3)`, `? 1 3 -2 ?`, `a + (1 - 3)`}, {`a + (1 + 1 - 3)`, `? 1 1 2 3 -1 ?`, `a + (2 - 3)`}, {`(1 + 1 - 3) * a`, `1 1 2 3 -1 ? ?`, `(2 - 3) * a`}, {`a * ((1 - 3) * (2 + 2)) - (3 - 1)`, `? 1 3 -2 2 2 4 -8 ? 3 1 2 ?`, `a * ((1 - 3) * 4) - 2`}, {`1 - 3 - a`, `1 3 -2 ? ?`, `1 - 3 - a`},
	})
}

func TestFoldAtTheGreatestNumbers(t *testing.T) {
	wantFoldedAll(t, []foldRow{
		{`1000000 + 0`, `1000000 0 1000000`, `1000000`}, {`999999 + 1`, `999999 1 1000000`, `1000000`}, {`1000000 + 1`, `1000000 1 ?`, `1000000 + 1`}, {`1 + 1000000`, `1 1000000 ?`, `1 + 1000000`}, {`1000000 + 1000000`, `1000000 1000000 ?`, `1000000 + 1000000`}, {`1000000 - (0 - 1)`, `1000000 0 1 -1 ?`, `1000000 - (0 - 1)`}, {`999999 - (0 - 1)`, `999999 0 1 -1 1000000`, `1000000`},
		{`1000 * 1000`, `1000 1000 1000000`, `1000000`}, {`1001 * 1000`, `1001 1000 ?`, `1001 * 1000`}, {`1000000 * 1`, `1000000 1 1000000`, `1000000`}, {`1000000 * 2`, `1000000 2 ?`, `1000000 * 2`}, {`1000000 * 1000000`, `1000000 1000000 ?`, `1000000 * 1000000`}, {`1000000 * 0`, `1000000 0 0`, `0`},
		{`0 - 1000000`, `0 1000000 -1000000`, `0 - 1000000`}, {`0 - 999999 - 1`, `0 999999 -999999 1 -1000000`, `0 - 999999 - 1`}, {`0 - 1000000 - 1`, `0 1000000 -1000000 1 ?`, `0 - 1000000 - 1`}, {`0 - 1 - 1000000`, `0 1 -1 1000000 ?`, `0 - 1 - 1000000`}, {`0 - 1 + (0 - 1000000)`, `0 1 -1 0 1000000 -1000000 ?`, `0 - 1 + (0 - 1000000)`}, {`0 - 1000000 - 1000000`, `0 1000000 -1000000 1000000 ?`, `0 - 1000000 - 1000000`},
		{`(0 - 1000) * 1000`, `0 1000 -1000 1000 -1000000`, `(0 - 1000) * 1000`}, {`(0 - 1001) * 1000`, `0 1001 -1001 1000 ?`, `(0 - 1001) * 1000`}, {`(0 - 1000) * (0 - 1000)`, `0 1000 -1000 0 1000 -1000 1000000`, `1000000`}, {`(0 - 1001) * (0 - 1000)`, `0 1001 -1001 0 1000 -1000 ?`, `(0 - 1001) * (0 - 1000)`}, {`(0 - 1000000) * (0 - 1000000)`, `0 1000000 -1000000 0 1000000 -1000000 ?`, `(0 - 1000000) * (0 - 1000000)`},
		// In the midst, what is beyond is not known, and nothing above it.
		{`1000000 + 1 - 1`, `1000000 1 ? 1 ?`, `1000000 + 1 - 1`}, {`1000000 - 1 + 1`, `1000000 1 999999 1 1000000`, `1000000`}, {`(1000000 + 1) * 0`, `1000000 1 ? 0 ?`, `(1000000 + 1) * 0`}, {`0 * (1000000 * 2)`, `0 1000000 2 ? ?`, `0 * (1000000 * 2)`}, {`1000000 * 2 - 1000000 * 2`, `1000000 2 ? 1000000 2 ? ?`, `1000000 * 2 - 1000000 * 2`},
		{`0 - 1000000 + 1000000`, `0 1000000 -1000000 1000000 0`, `0`}, {`1000000 + (0 - 1000000)`, `1000000 0 1000000 -1000000 0`, `0`}, {`0 - 1000000 - 1 + 1`, `0 1000000 -1000000 1 ? 1 ?`, `0 - 1000000 - 1 + 1`}, {`(0 - 1000000) * (0 - 1)`, `0 1000000 -1000000 0 1 -1 1000000`, `1000000`},
		{`1000000 + 1 + 2 * 3`, `1000000 1 ? 2 3 6 ?`, `1000000 + 1 + 6`}, {`500000 + 500000 + 1`, `500000 500000 1000000 1 ?`, `1000000 + 1`}, {`(1 + 1 - 1000000) * 2`, `1 1 2 1000000 -999998 2 ?`, `(2 - 1000000) * 2`}, {`(1000000 + 1) * (2 - 1 - 3 * 3)`, `1000000 1 ? 2 1 1 3 3 9 -8 ?`, `(1000000 + 1) * (1 - 9)`},
	})
}

func TestFoldOfManyStatements(t *testing.T) {
	for _, c := range []foldRow{
		{``, ``, ``},
		{`print(1 + 2); print(a); print(3 + 4 + a); throw 5 - 6;`, `1 2 3 ? 3 4 7 ? ? 5 6 -1`, `print(3); print(a); print(7 + a); throw 5 - 6;`},
		{`let a = 2 * 3; function f() { return a - (4 - 1); } a = f() * (1 - 1 - 1); print(undef); fail 0 * 0;`, `2 3 6 ? 4 1 3 ? ? 1 1 0 1 -1 ? ? 0 0 0`, `let a = 6; function f() { return a - 3; } a = f() * (0 - 1); print(undef); fail 0;`},
		{`print(1); print(2); print(3);`, `1 2 3`, `print(1); print(2); print(3);`},
		{`print(1 + 1); print(2 - 5); print(3 * 3);`, `1 1 2 2 5 -3 3 3 9`, `print(2); print(2 - 5); print(9);`},
		// What an early error is, is nothing to what is known.
		{`let a = 1 + 1; let a = 2 + 2; print(n.a + (3 + 3));`, `1 1 2 2 2 4 ? 3 3 6 ?`, `let a = 2; let a = 4; print(n.a + 6);`},
		{`let $a = 1 + 1; function f$1() { return $a + (2 + 2); }`, `1 1 2 ? 2 2 4 ?`, `let $a = 2; function f$1() { return $a + 4; }`},
	} {
		wantFolded(t, c.text, c.known, c.folded)
	}
}

// wantUnfolded asks that a program stays as it is, and for what is known of it.
func wantUnfolded(t *testing.T, what string, m impl.Mod, known string) {
	t.Helper()
	wantKnown(t, what, m, known)
	if got := impl.Fold(m); !isSameMod(got, m) {
		t.Errorf("Fold with %s is %+v, not %+v", what, got, m)
	}
	wantFoldHeld(t, m)
}

func TestFoldOfModules(t *testing.T) {
	for text, known := range map[string]string{
		`import "x"; print(1 + 1);`:                                `1 1 2`,
		`import { a } from "x"; print(a + (1 + 1));`:               `? 1 1 2 ?`,
		`import * as n from "x"; print(n.a + (1 - 3) * 2);`:        `? 1 3 -2 2 -4 ?`,
		`export let a = 2 * 3;`:                                    `2 3 6`,
		`export function f() { return 2 * 3 - 1; }`:                `2 3 6 1 5`,
		`export default 1 + 2;`:                                    `1 2 3`,
		`let a = 1 + 1; export { a };`:                             `1 1 2`,
		`print(1 + 1); export * from "x";`:                         `1 1 2`,
		`let fail = 1 + 1;`:                                        `1 1 2`,
		`function undef() { return 1 + 1; }`:                       `1 1 2`,
		`undef = 1 + 1;`:                                           `1 1 2`,
		`print(fail + (1 + 1));`:                                   `? 1 1 2 ?`,
		`import { a as b } from "x"; throw 1000000 + 1 - b * (1);`: `1000000 1 ? ? 1 ? ?`,
	} {
		wantUnfolded(t, text, mustParse(t, text, false), known)
	}
	// What is a program of either kind is one of a script.
	for text, folded := range map[string]string{`print(1 + 1);`: `print(2);`, `let a = b * (3 - 1);`: `let a = b * 2;`, `print(undef + (1 + 1));`: `print(undef + 2);`, `throw n.a - (n.default() + 0 * 1);`: `throw n.a - (n.default() + 0);`} {
		if got := impl.Fold(mustParse(t, text, false)); !isSameMod(got, mustParse(t, folded, true)) {
			t.Errorf("Fold of %q is %+v", text, got)
		}
	}
}

// oddScript is one that is folded; what changes one field of it is told by its numbers below.
func oddScript(t *testing.T) impl.Mod {
	return mustParse(t, `let a = 1 + 2; print(7 - 4 * b); throw 5;`, true)
}

func TestFoldOfProgramsThatAreNotRight(t *testing.T) {
	wantFolded(t, `let a = 1 + 2; print(7 - 4 * b); throw 5;`, `1 2 3 7 4 ? ? ? 5`, `let a = 3; print(7 - 4 * b); throw 5;`)
	none := strings.Repeat("? ", 9)
	for what, c := range map[string]struct {
		known  string
		change func(m *impl.Mod)
	}{
		"sides in the other order":         {`1 2 3 7 4 ? ? ? 5`, func(m *impl.Mod) { m.Exprs[2].L, m.Exprs[2].R = 1, 0 }},
		"other sides the other way":        {`1 2 1 7 4 ? ? ? 5`, func(m *impl.Mod) { m.Exprs[2] = impl.Expr{Kind: impl.ExSub, L: 1, R: 0} }},
		"Exprs of two Stmts the other way": {`1 2 3 7 4 ? ? ? 5`, func(m *impl.Mod) { m.Stmts[0].Expr, m.Stmts[1].Expr = 7, 2 }},
		"a request":                        {`1 2 3 7 4 ? ? ? 5`, func(m *impl.Mod) { m.Requests = []string{"x"} }},
		"an Imp":                           {`1 2 3 7 4 ? ? ? 5`, func(m *impl.Mod) { m.Imps = []impl.Imp{{Spec: "x", From: "b", Local: "b"}} }},
		"an Exp":                           {`1 2 3 7 4 ? ? ? 5`, func(m *impl.Mod) { m.Exps = []impl.Exp{{Kind: impl.EpLocal, Name: "a", Local: "a"}} }},
		"a default":                        {`1 2 3 7 4 ? ? ? 5`, func(m *impl.Mod) { m.Stmts[0].Name = impl.DefaultName }},
		"a Stmt of no Kind":                {`1 2 3 7 4 ? ? ? 5`, func(m *impl.Mod) { m.Stmts[1].Kind = 0 }},
		"a StPrint with a Name":            {`1 2 3 7 4 ? ? ? 5`, func(m *impl.Mod) { m.Stmts[1].Name = "a" }},
		"a Name that is a word":            {`1 2 3 7 4 ? ? ? 5`, func(m *impl.Mod) { m.Stmts[0].Name = "fail" }},
		"a Name of a sum":                  {`1 2 3 7 4 ? ? ? 5`, func(m *impl.Mod) { m.Exprs[2].Name = "a" }},
		"a Num of a sum":                   {`1 2 3 7 4 ? ? ? 5`, func(m *impl.Mod) { m.Exprs[2].Num = 9 }},
		"an L of a number":                 {`1 2 3 7 4 ? ? ? 5`, func(m *impl.Mod) { m.Exprs[0].L, m.Exprs[1].R = -7, 99 }},
		"a Field of a number":              {`1 2 3 7 4 ? ? ? 5`, func(m *impl.Mod) { m.Exprs[0].Field = "a" }},
		"a Num below 0":                    {`-1 2 1 7 4 ? ? ? 5`, func(m *impl.Mod) { m.Exprs[0].Num = -1 }},
		"a Num above MaxNum":               {`1 1000001 ? 7 4 ? ? ? 5`, func(m *impl.Mod) { m.Exprs[1].Num = impl.MaxNum + 1 }},
		"a Num of a name":                  {`1 2 3 7 4 ? ? ? 5`, func(m *impl.Mod) { m.Exprs[5].Num = 3 }},
		"a name that is a number":          {`1 2 3 7 4 0 0 7 5`, func(m *impl.Mod) { m.Exprs[5].Kind = impl.ExNum }},
		"a number of no Kind":              {`? 2 ? 7 4 ? ? ? 5`, func(m *impl.Mod) { m.Exprs[0].Kind = 0 }},
		"a number of a Kind above":         {`1 ? ? 7 4 ? ? ? 5`, func(m *impl.Mod) { m.Exprs[1].Kind = 9 }},
		"a number of a Kind below 0":       {`1 2 3 7 4 ? ? ? ?`, func(m *impl.Mod) { m.Exprs[8].Kind = -1 }},
		"a number that is a call":          {`1 2 3 7 4 ? ? ? ?`, func(m *impl.Mod) { m.Exprs[8].Kind = impl.ExCall }},
		// These have no text.
		"an L that is not ahead":        {none, func(m *impl.Mod) { m.Exprs[2].L = 2 }},
		"an R that is not ahead":        {none, func(m *impl.Mod) { m.Exprs[2].R = 3 }},
		"an L below 0":                  {none, func(m *impl.Mod) { m.Exprs[2].L = -1 }},
		"an R far below 0":              {none, func(m *impl.Mod) { m.Exprs[2].R = math.MinInt }},
		"an L behind the end":           {none, func(m *impl.Mod) { m.Exprs[6].L = 9 }},
		"an R far behind the end":       {none, func(m *impl.Mod) { m.Exprs[7].R = math.MaxInt }},
		"both sides one":                {none, func(m *impl.Mod) { m.Exprs[2].R = 0 }},
		"a Stmt's Expr that is a side":  {none, func(m *impl.Mod) { m.Stmts[0].Expr = 0 }},
		"a Stmt's Expr below 0":         {none, func(m *impl.Mod) { m.Stmts[2].Expr = -1 }},
		"a Stmt's Expr behind the end":  {none, func(m *impl.Mod) { m.Stmts[2].Expr = 9 }},
		"a Stmt too few":                {none, func(m *impl.Mod) { m.Stmts = m.Stmts[:2] }},
		"no Stmt":                       {none, func(m *impl.Mod) { m.Stmts = nil }},
		"a Stmt twice":                  {none, func(m *impl.Mod) { m.Stmts = append(m.Stmts, m.Stmts[2]) }},
		"a sum that is no Expr":         {none, func(m *impl.Mod) { m.Exprs[2].Kind = 0 }},
		"a sum that is a number":        {none, func(m *impl.Mod) { m.Exprs[2].Kind = impl.ExNum }},
		"a number that is a sum":        {none, func(m *impl.Mod) { m.Exprs[8].Kind = impl.ExAdd }},
		"an Expr that no one asks for":  {none + "?", func(m *impl.Mod) { m.Exprs = append(m.Exprs, impl.Expr{Kind: impl.ExNum, Num: 3}) }},
		"an Expr that is no longer one": {none[:16], func(m *impl.Mod) { m.Exprs = m.Exprs[:8] }},
		"no Expr":                       {"", func(m *impl.Mod) { m.Exprs = nil }},
	} {
		m := oddScript(t)
		c.change(&m)
		if impl.ModOk(m, true) || (impl.Print(m, true) == "") != !strings.ContainsAny(c.known, "0123456789") {
			t.Fatalf("%s: %+v is not what the test stands on", what, m)
		}
		wantUnfolded(t, what, m, c.known)
	}
	for what, m := range map[string]impl.Mod{"the zero Mod": {}, "empty lists": {Requests: []string{}, Imps: []impl.Imp{}, Exps: []impl.Exp{}, Stmts: []impl.Stmt{}, Exprs: []impl.Expr{}}, "a request alone": {Requests: []string{"x"}}, "Imps and Exps alone": {Imps: []impl.Imp{{Local: "a"}}, Exps: []impl.Exp{{Kind: impl.EpStar}}}, "a Stmt alone": {Stmts: []impl.Stmt{{}}}} {
		wantUnfolded(t, what, m, "")
	}
}

// oddNums are around what a value may be, what a float can tell apart and what an int can be.
func oddNums() []int {
	nums := []int{}
	for _, n := range []int{0, impl.MaxNum, 1 << 24, 1 << 31, 1 << 32, 1 << 53, 1 << 62, math.MaxInt - 2, math.MinInt + 2} {
		for d := -2; d <= 2; d++ {
			nums = append(nums, n+d, -n-d)
		}
	}
	slices.Sort(nums)
	return slices.Compact(nums)
}

func TestKnownOfNumsThatNoTextHas(t *testing.T) {
	for _, n := range oddNums() {
		m := impl.Mod{Exprs: []impl.Expr{{Kind: impl.ExNum, Num: n}}, Stmts: []impl.Stmt{{Kind: impl.StPrint}}}
		if got, is := impl.Known(m, 0); got != n || !is {
			t.Errorf("Known of %d is %d, %v", n, got, is)
		}
		wantFoldHeld(t, m)
	}
	known := 0
	for _, l := range oddNums() {
		for _, r := range oddNums() {
			for kind := impl.ExAdd; kind <= impl.ExMul; kind++ {
				m := impl.Mod{Exprs: []impl.Expr{{Kind: impl.ExNum, Num: l}, {Kind: impl.ExNum, Num: r}, {Kind: kind, L: 0, R: 1}}, Stmts: []impl.Stmt{{Kind: impl.StPrint, Expr: 2}}}
				wantFoldHeld(t, m)
				if _, is := impl.Known(m, 2); is {
					known++
				}
			}
		}
	}
	if known < 100 {
		t.Errorf("%d are known: that tells too little", known)
	}
	// The sums of two that are known to be too great are not, however they come out.
	for _, c := range []struct{ l, r, kind int }{{math.MaxInt, math.MaxInt, impl.ExMul}, {math.MaxInt, math.MaxInt, impl.ExSub}, {math.MinInt, math.MinInt, impl.ExAdd}, {1 << 32, 1 << 32, impl.ExMul}, {impl.MaxNum + 1, 1, impl.ExSub}, {1, -impl.MaxNum - 1, impl.ExAdd}, {math.MinInt, 0, impl.ExMul}, {0, impl.MaxNum + 1, impl.ExMul}} {
		m := impl.Mod{Exprs: []impl.Expr{{Kind: impl.ExNum, Num: c.l}, {Kind: impl.ExNum, Num: c.r}, {Kind: c.kind, L: 0, R: 1}}, Stmts: []impl.Stmt{{Kind: impl.StPrint, Expr: 2}}}
		wantKnown(t, "odd", m, strconv.Itoa(c.l)+" "+strconv.Itoa(c.r)+" ?")
	}
}

func TestFoldAtTheLimits(t *testing.T) {
	// As many Exprs as there may be, of one statement.
	wantFolded(t, "print(a"+strings.Repeat(" * 1", 149)+");", "? "+strings.Repeat("1 ? ", 149), "print(a"+strings.Repeat(" * 1", 149)+");")
	wantFolded(t, "print("+strings.Repeat("1 * ", 149)+"a);", strings.TrimPrefix(strings.Repeat("1 1 ", 149), "1 ")+"? ?", "print(1 * a);")
	ones := "1"
	for n := 2; n <= 150; n++ {
		ones += " 1 " + strconv.Itoa(n)
	}
	wantFolded(t, "print(1"+strings.Repeat(" + 1", 149)+");", ones, "print(150);")
	// As many statements as there may be.
	for _, c := range []foldRow{{"print(2 * 3);", "2 3 6 ", "print(6);"}, {"print(2 - 3);", "2 3 -1 ", "print(2 - 3);"}, {"print(a);", "? ", "print(a);"}} {
		wantFolded(t, strings.Repeat(c.text, impl.MaxStmts), strings.Repeat(c.known, impl.MaxStmts), strings.Repeat(c.folded, impl.MaxStmts))
	}
	// As many ( inside of each other as there may be.
	open, closed := strings.Repeat("2 - (", impl.MaxDepth), strings.Repeat(")", impl.MaxDepth)
	wantFolded(t, "print("+open+"a"+closed+");", strings.Repeat("2 ", impl.MaxDepth)+strings.Repeat("? ", impl.MaxDepth+1), "print("+open+"a"+closed+");")
	wantFolded(t, "print("+open+"1 - 4"+closed+");", strings.Repeat("2 ", impl.MaxDepth)+"1 4 -3 "+strings.Repeat("5 -3 ", impl.MaxDepth/2), "print(2 - 5);")
	// Far more than there may be is no program, and is known all the same.
	deep := impl.Mod{Exprs: []impl.Expr{{Kind: impl.ExNum, Num: 7}}}
	for range 1 << 12 {
		at := len(deep.Exprs)
		deep.Exprs = append(deep.Exprs, impl.Expr{Kind: impl.ExNum, Num: 9}, impl.Expr{Kind: impl.ExSub, L: at, R: at - 1})
	}
	deep.Stmts = []impl.Stmt{{Kind: impl.StThrow, Expr: len(deep.Exprs) - 1}}
	if n, is := impl.Known(deep, len(deep.Exprs)-1); n != 7 || !is {
		t.Errorf("Known is %d, %v", n, is)
	}
	if !isSameMod(impl.Fold(deep), deep) || impl.Size(deep) != 1<<13+2 {
		t.Error("a program that is too great is folded, or has another size")
	}
}

func TestSize(t *testing.T) {
	script := mustParse(t, "print(2 * 3 + a); print((1 - 3) * (2 - 9)); print(1 - 3); print(1000 * 1000 + 1); throw a * (5 - 5);", true)
	for _, c := range []struct {
		m    impl.Mod
		want int
	}{
		{impl.Mod{}, 0}, {script, 30}, {impl.Fold(script), 18}, {okModule(t), 20}, {fullMod(), impl.MaxExprs + impl.MaxStmts}, {mustParse(t, "print(1);", true), 2}, {mustParse(t, `import { a } from "x"; export { a }; export * from "x";`, false), 0},
		// It is of any Mod.
		{impl.Mod{Requests: []string{"a"}, Imps: make([]impl.Imp, 3), Exps: make([]impl.Exp, 5)}, 0}, {impl.Mod{Stmts: make([]impl.Stmt, 100)}, 100}, {impl.Mod{Exprs: make([]impl.Expr, 1000)}, 1000}, {impl.Mod{Stmts: make([]impl.Stmt, 100, 200), Exprs: make([]impl.Expr, 1000, 2000)}, 1100},
	} {
		if got := impl.Size(c.m); got != c.want {
			t.Errorf("Size of %d Exprs and %d Stmts is %d, not %d", len(c.m.Exprs), len(c.m.Stmts), got, c.want)
		}
	}
}

func TestFoldKeepsWhatScriptsDo(t *testing.T) {
	for _, c := range []struct{ text, course, folded string }{
		{`let a = 2 * 3; print(a); throw (1 - 3) * 2;`, `6:6 12:throw:-4`, `4:6 10:throw:-4`},
		{`print(1 + 2 * 3); print(5 - 5);`, `6:7 10:0 10:done`, `2:7 4:0 4:done`},
		{`print(1 + 2); print(1 - 2); print(3);`, `4:3 8:-1 10:3 10:done`, `2:3 6:-1 8:3 8:done`},
		{`function f() { return 2 * 3; } print(f() + f()); print(f);`, `11:12 13:function 13:done`, `7:12 9:function 9:done`},
		{`function f() { return a + (3 - 1); } let a = 4 * 5; print(f()); a = 1 + 1 - 5; print(f()); fail 2 * 2;`, `12:22 25:-1 29:type`, `8:22 17:-1 19:type`},
		// What goes wrong does so at the same place, behind what was printed.
		{`print(1 + 1); print(1000000 + 1); print(2);`, `4:2 8:range`, `2:2 6:range`},
		{`print(2 * 2); print((1000000 + 1) * (1 + 1)); print(2);`, `4:4 9:range`, `2:4 7:range`},
		{`print(1 + 1); print(undef * (2 + 2));`, `4:2 10:type`, `2:2 6:type`},
		{`print(1 + 1); print(none + (2 + 2));`, `4:2 7:ref`, `2:2 5:ref`},
		{`print(1 + 1); print(2 + 2 + b); let b = 1 + 1;`, `4:2 10:ref`, `2:2 6:ref`},
		{`print(3 * 3); b = 1 + 1; print(4);`, `4:9 8:ref`, `2:9 4:ref`},
		{`print(3 * 3); fail 1 + 1; print(4);`, `4:9 8:type`, `2:9 4:type`},
		{`let f = 1 + 1; print(f());`, `6:type`, `4:type`},
		{`print(2 + 2); throw undef; print(1);`, `4:4 6:throw:undefined`, `2:4 4:throw:undefined`},
		{`throw 2 + 2; print(1 + 1);`, `4:throw:4`, `2:throw:4`},
		{`function f() { return f() + (1 + 1); } print(2 + 2); print(f());`, `5:4 67:range`, `3:4 65:range`},
		{`function f() { return 1 + 1 + f(); } print(2 + 2); print(f());`, `5:4 157:range`, `3:4 95:range`},
		{`function f() { return 1 - 3; } let a = f() * (2 - 3 + 4); print(a - (0 - 7)); throw 0 * a;`, `18:1 22:throw:0`, `14:1 18:throw:0`},
	} {
		m := mustParse(t, c.text, true)
		wantScriptCourse(t, c.text, c.course)
		wantScriptCourse(t, impl.Print(impl.Fold(m), true), c.folded)
		wantFoldRun(t, m, math.MaxInt)
	}
	// An early error is one still.
	for _, text := range []string{`let a = 1 + 1; let a = 2; print(a);`, `print(1 + 1); print(a.b);`, `function f() { return 1 + 1; } let f = 2;`} {
		m := mustParse(t, text, true)
		wantNoScriptRun(t, text, m)
		wantNoScriptRun(t, "folded "+text, impl.Fold(m))
		if impl.Early(impl.Fold(m), true) != impl.Early(m, true) {
			t.Errorf("%q has another early error when it is folded", text)
		}
	}
}

// What wants more steps than there may be comes to its end, it may be, when it is folded.
func TestFoldOfScriptsThatWantTooMuch(t *testing.T) {
	text := `function f0() { return 1 + 2 * 3 - 4 - 2 + 0; } print(9 - 8);`
	for i := 1; i <= 13; i++ {
		a, b := strconv.Itoa(i-1), strconv.Itoa(i)
		text += "function f" + b + "() { return f" + a + "() + f" + a + "(); }"
	}
	m := mustParse(t, text+`print(f13()); print(f0());`, true)
	if got, want := impl.RunScript(m, impl.MaxFuel), (impl.Trace{Out: []string{"1"}, End: impl.TrFuel}); !isSameTrace(got, want) {
		t.Errorf("RunScript tells %v", got)
	}
	if got, want := impl.RunScript(impl.Fold(m), impl.MaxFuel), (impl.Trace{Out: []string{"1", "8192", "1"}}); !isSameTrace(got, want) {
		t.Errorf("folded, RunScript tells %v", got)
	}
	wantFoldHeld(t, m)
}

func TestFoldIsNewMemory(t *testing.T) {
	script := `let aa = 1 + 2; function ff() { return bb * (3 + 4); } aa = ff() + gg; print(undef - nn.hh() - nn.ii); throw 1 - 2;`
	for _, m := range []impl.Mod{mustParse(t, script, true), mustParse(t, `import { aa as bb } from "./cc"; export { bb as dd }; export { ee } from "./ff"; print(bb + (1 + 1)); let gg = hh();`, false), fullMod()} {
		first, second := impl.Fold(m), impl.Fold(m)
		if !isSameMod(first, second) || len(first.Exprs) == 0 {
			t.Fatalf("Fold is %+v and %+v", first, second)
		}
		wantApart(t, impl.Graph{Mods: []impl.Mod{first}}, impl.Graph{Mods: []impl.Mod{m, second}})
		before := cloneMod(second)
		clear(first.Requests[:cap(first.Requests)])
		clear(first.Imps[:cap(first.Imps)])
		clear(first.Exps[:cap(first.Exps)])
		clear(first.Stmts[:cap(first.Stmts)])
		clear(first.Exprs[:cap(first.Exprs)])
		if !isSameMod(second, before) || !isSameMod(impl.Fold(m), before) {
			t.Error("an answer is kept")
		}
	}
	// Where rows share their texts, those of the answer do not.
	name := strings.Clone("aa")
	for _, kind := range []int{impl.StSet, impl.StPrint} {
		odd := impl.Mod{Stmts: []impl.Stmt{{Kind: kind, Name: name, Expr: 2}}, Exprs: []impl.Expr{{Kind: impl.ExName, Name: name}, {Kind: impl.ExMember, Name: name, Field: name}, {Kind: impl.ExAdd, L: 0, R: 1}}}
		if impl.ModOk(odd, true) != (kind == impl.StSet) {
			t.Fatalf("%+v is not what the test stands on", odd)
		}
		wantApart(t, impl.Graph{Mods: []impl.Mod{impl.Fold(odd)}}, impl.Graph{Mods: []impl.Mod{odd}})
	}
}
