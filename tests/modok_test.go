package tests

import (
	"math"
	"math/rand"
	"slices"
	"strings"
	"testing"

	"loop.example/g00777/impl"
)

// someTexts are programs of many items.
func someTexts(script bool) []string {
	texts := []string{strings.Join(longItems(script)[:5], "")}
	for _, c := range itemsOf(script) {
		texts = append(texts, c.text)
	}
	if script {
		return append(texts, "let a$ = 1; function f$1() { return a$ * (a$ - 2) - undef; } print(f$1() + undef()); fail a$; $ = $ - ($ + 1); throw n.default;")
	}
	return append(texts, strings.Join(longItems(false), "\n"),
		`import { a, b as c } from "./x"; import d from "./y"; import * as n from "./x"; export { a as z }; export default 1 + 2 * n.q; export { e } from "./w"; export * from "./y"; export function f() { return (1 - a) * f(); } let g = 3; g = g - (g - n.h()); print(g); throw 4;`)
}

func TestTextsOfTheSameTokensAreOneProgram(t *testing.T) {
	gaps := []string{" ", "\n", "\r\n\t ", "//\n", " // let let @ \"\n", "// a\n\n// b\n", ""}
	for _, script := range inBoth {
		texts := someTexts(script)
		// Where a token cannot stand, it is the same one, however the text is written.
		texts = append(texts, "let a = 1; let let = 2;", "print(1 print(2);", "a = (1 + 2;", "export { default };", "let a = 1")
		for _, s := range texts {
			tokens, _ := impl.Lex(s, script)
			want, place := impl.Parse(s, script)
			for i, gap := range gaps {
				text, badAt := gap, -1
				for j, k := range tokens {
					if gap == "" && j > 0 && isWordLike(tokens[j-1]) && isWordLike(k) {
						text += gaps[(i+j)%(len(gaps)-1)]
					}
					if k.At == place {
						badAt = len(text)
					}
					text += tokenText(k) + gap
				}
				if place >= 0 && badAt < 0 {
					badAt = len(text)
				}
				if got, bad := impl.Parse(text, script); bad != badAt || !isSameMod(got, want) {
					t.Fatalf("Parse(%q, %v) = %+v, %d, but of %q it is %+v, %d", text, script, got, bad, s, want, place)
				}
			}
		}
	}
}

func TestModOkOfWhatParseMade(t *testing.T) {
	for _, script := range inBoth {
		for _, s := range someTexts(script) {
			m, bad := impl.Parse(s, script)
			if bad != -1 {
				continue
			}
			if !impl.ModOk(m, script) {
				t.Errorf("ModOk is false of what %q means", s)
			}
			asOther := len(m.Requests)+len(m.Imps)+len(m.Exps) == 0 && !strings.ContainsAny(s, "$") && !strings.Contains(s, "fail")
			if asOther != impl.ModOk(m, !script) {
				t.Errorf("ModOk(%v) is %v of what %q means", !script, !asOther, s)
			}
		}
		if !impl.ModOk(impl.Mod{}, script) || !impl.ModOk(impl.Mod{Requests: []string{}, Imps: []impl.Imp{}, Exps: []impl.Exp{}, Stmts: []impl.Stmt{}, Exprs: []impl.Expr{}}, script) {
			t.Error("the empty program is not right")
		}
	}
}

// okModule has one of each thing; what changes one field of it is told by its numbers below.
func okModule(t *testing.T) impl.Mod {
	return mustParse(t, `import "r"; import { a as b } from "s"; import * as n from "t"; export { b as c }; export { d as e } from "t"; export * from "r"; export default 1 + 2; let x = n.y; function f() { return f() * n.g(); } x = x; print(3); throw (4 - 5) * 6;`, false)
}

func TestModOkOfOneOtherField(t *testing.T) {
	for what, change := range map[string]func(m *impl.Mod){
		"a side that is not ahead (L)":         func(m *impl.Mod) { m.Exprs[2].L = 2 },
		"a side that is not ahead (R)":         func(m *impl.Mod) { m.Exprs[2].R = 3 },
		"a side below 0":                       func(m *impl.Mod) { m.Exprs[2].L = -1 },
		"a side far below 0":                   func(m *impl.Mod) { m.Exprs[2].R = math.MinInt },
		"a side behind the end":                func(m *impl.Mod) { m.Exprs[2].R = len(m.Exprs) },
		"a side far behind the end":            func(m *impl.Mod) { m.Exprs[2].R = math.MaxInt },
		"sides in the other order":             func(m *impl.Mod) { m.Exprs[2].L, m.Exprs[2].R = 1, 0 },
		"both sides one":                       func(m *impl.Mod) { m.Exprs[2].R = 0 },
		"an Expr that no one asks for":         func(m *impl.Mod) { m.Exprs = append(m.Exprs, impl.Expr{Kind: impl.ExNum}) },
		"an Expr ahead that no one asks for":   func(m *impl.Mod) { m.Stmts[0].Expr = 1 },
		"an Expr that two ask for":             func(m *impl.Mod) { m.Stmts = append(m.Stmts, impl.Stmt{Kind: impl.StThrow, Expr: len(m.Exprs) - 1}) },
		"a Stmt's Expr that is a side":         func(m *impl.Mod) { m.Stmts[0].Expr = 0 },
		"a Stmt's Expr below 0":                func(m *impl.Mod) { m.Stmts[0].Expr = -1 },
		"a Stmt's Expr behind the end":         func(m *impl.Mod) { m.Stmts[0].Expr = len(m.Exprs) },
		"Stmts in another order":               func(m *impl.Mod) { m.Stmts[0], m.Stmts[1] = m.Stmts[1], m.Stmts[0] },
		"Exprs of two Stmts the other way":     func(m *impl.Mod) { m.Stmts[0].Expr, m.Stmts[1].Expr = 3, 2 },
		"a Stmt too few":                       func(m *impl.Mod) { m.Stmts = m.Stmts[1:] },
		"a request in the place of another":    func(m *impl.Mod) { m.Requests[0] = "q" },
		"a request that lacks":                 func(m *impl.Mod) { m.Requests = m.Requests[:2] },
		"no request":                           func(m *impl.Mod) { m.Requests = nil },
		"a request that lacks in the middle":   func(m *impl.Mod) { m.Requests = slices.Delete(m.Requests, 1, 2) },
		"a request that stands twice":          func(m *impl.Mod) { m.Requests = append(m.Requests, "r") },
		"a request with a quote":               func(m *impl.Mod) { m.Requests[0] = "r\"; import \"s" },
		"a request with a byte that is none":   func(m *impl.Mod) { m.Requests = append(m.Requests, "\n") },
		"a request that is too long":           func(m *impl.Mod) { m.Requests = append(m.Requests, strings.Repeat("a", impl.MaxStr+1)) },
		"a Spec that is no request":            func(m *impl.Mod) { m.Imps[0].Spec = "q" },
		"a Spec of an Exp that is no request":  func(m *impl.Mod) { m.Exps[1].Spec = "q" },
		"a Spec of a star that is no request":  func(m *impl.Mod) { m.Exps[2].Spec = "q" },
		"a Spec of an EpLocal":                 func(m *impl.Mod) { m.Exps[0].Spec = "r" },
		"a Name of a star":                     func(m *impl.Mod) { m.Exps[2].Name = "a" },
		"a Local of a star":                    func(m *impl.Mod) { m.Exps[2].Local = "a" },
		"a From that is a word":                func(m *impl.Mod) { m.Imps[0].From = "let" },
		"a From that is none":                  func(m *impl.Mod) { m.Imps[0].From = "" },
		"a From that begins with a digit":      func(m *impl.Mod) { m.Imps[0].From = "1a" },
		"a Local of an Imp that is a word":     func(m *impl.Mod) { m.Imps[0].Local = "default" },
		"a Local of an Imp that is none":       func(m *impl.Mod) { m.Imps[0].Local = "" },
		"a Local of a space that is a word":    func(m *impl.Mod) { m.Imps[1].Local = "print" },
		"a Local of a space that is *":         func(m *impl.Mod) { m.Imps[1].Local = "*" },
		"a Name of an Exp that is a word":      func(m *impl.Mod) { m.Exps[0].Name = "let" },
		"a Name of an Exp that is none":        func(m *impl.Mod) { m.Exps[0].Name = "" },
		"a Local of an Exp that is a word":     func(m *impl.Mod) { m.Exps[0].Local = "default" },
		"a Local of an Exp that is none":       func(m *impl.Mod) { m.Exps[0].Local = "" },
		"a Local of an EpFrom that is a word":  func(m *impl.Mod) { m.Exps[1].Local = "throw" },
		"a Local of an EpFrom that is *":       func(m *impl.Mod) { m.Exps[1].Local = "*" },
		"an Exp of no Kind":                    func(m *impl.Mod) { m.Exps[0].Kind = 0 },
		"an Exp of a Kind above":               func(m *impl.Mod) { m.Exps[0].Kind = 4 },
		"an Exp of a Kind below 0":             func(m *impl.Mod) { m.Exps[0].Kind = -1 },
		"an Imp with two names in one":         func(m *impl.Mod) { m.Imps[0].Local = "b, b" },
		"an Exp with two names in one":         func(m *impl.Mod) { m.Exps[0].Local = "b, b" },
		"the default one ahead of others":      func(m *impl.Mod) { slices.Reverse(m.Exps) },
		"the default one of another name":      func(m *impl.Mod) { m.Exps[3].Name = "d" },
		"the default one of another Local":     func(m *impl.Mod) { m.Exps[3].Local = "d" },
		"the default one of no Kind":           func(m *impl.Mod) { m.Exps[3].Kind = 0 },
		"the default one of Kind EpFrom":       func(m *impl.Mod) { m.Exps[3].Kind = impl.EpFrom },
		"the default one lacks":                func(m *impl.Mod) { m.Exps = m.Exps[:3] },
		"the default one twice":                func(m *impl.Mod) { m.Exps = append(m.Exps, m.Exps[3]) },
		"the default one has another name":     func(m *impl.Mod) { m.Stmts[0].Name = "d" },
		"the default one is a function":        func(m *impl.Mod) { m.Stmts[0].Kind = impl.StFn },
		"the default one is set":               func(m *impl.Mod) { m.Stmts[0].Kind = impl.StSet },
		"the default one is printed":           func(m *impl.Mod) { m.Stmts[0].Kind = impl.StPrint },
		"another one is the default one":       func(m *impl.Mod) { m.Stmts[1].Name = impl.DefaultName },
		"a Stmt of no Kind":                    func(m *impl.Mod) { m.Stmts[1].Kind = 0 },
		"a Stmt of a Kind above":               func(m *impl.Mod) { m.Stmts[1].Kind = 7 },
		"a StFail in a module":                 func(m *impl.Mod) { m.Stmts[4].Kind = impl.StFail },
		"a Name of a StLet that is a word":     func(m *impl.Mod) { m.Stmts[1].Name = "default" },
		"a Name of a StLet that is none":       func(m *impl.Mod) { m.Stmts[1].Name = "" },
		"a Name of a StFn that is a word":      func(m *impl.Mod) { m.Stmts[2].Name = "return" },
		"a Name of a StSet that is a word":     func(m *impl.Mod) { m.Stmts[3].Name = "let" },
		"a Name of a StSet that is none":       func(m *impl.Mod) { m.Stmts[3].Name = "" },
		"a Name of a StPrint":                  func(m *impl.Mod) { m.Stmts[4].Name = "a" },
		"a Name of a StThrow":                  func(m *impl.Mod) { m.Stmts[5].Name = impl.DefaultName },
		"an Expr of no Kind":                   func(m *impl.Mod) { m.Exprs[0].Kind = 0 },
		"an Expr of a Kind above":              func(m *impl.Mod) { m.Exprs[0].Kind = 9 },
		"an Expr of a Kind below 0":            func(m *impl.Mod) { m.Exprs[0].Kind = -1 },
		"a sum that is no Expr":                func(m *impl.Mod) { m.Exprs[2].Kind = 0 },
		"a number that is a name":              func(m *impl.Mod) { m.Exprs[0].Kind = impl.ExName },
		"a Num below 0":                        func(m *impl.Mod) { m.Exprs[0].Num = -1 },
		"a Num above MaxNum":                   func(m *impl.Mod) { m.Exprs[0].Num = impl.MaxNum + 1 },
		"a Num of a sum":                       func(m *impl.Mod) { m.Exprs[2].Num = 1 },
		"a Name of a number":                   func(m *impl.Mod) { m.Exprs[0].Name = "a" },
		"a Field of a number":                  func(m *impl.Mod) { m.Exprs[0].Field = "a" },
		"an L of a number":                     func(m *impl.Mod) { m.Exprs[0].L = 1 },
		"an R of a number":                     func(m *impl.Mod) { m.Exprs[1].R = 1 },
		"a Name of a space that is a word":     func(m *impl.Mod) { m.Exprs[3].Name = "default" },
		"a Field that is a word":               func(m *impl.Mod) { m.Exprs[3].Field = "let" },
		"a Field that is none":                 func(m *impl.Mod) { m.Exprs[3].Field = "" },
		"a Field of a name":                    func(m *impl.Mod) { m.Exprs[4].Field = "a" },
		"a Name that is a word":                func(m *impl.Mod) { m.Exprs[4].Name = "function" },
		"a Name that is none":                  func(m *impl.Mod) { m.Exprs[4].Name = "" },
		"a Name with a $":                      func(m *impl.Mod) { m.Exprs[4].Name = "f$" },
		"a Name with a blank":                  func(m *impl.Mod) { m.Exprs[4].Name = "f " },
		"a Name with a call":                   func(m *impl.Mod) { m.Exprs[7].Name = "x()" },
		"a Name that is an expression":         func(m *impl.Mod) { m.Exprs[7].Name = "x + 1" },
		"an Imp too many that is no one":       func(m *impl.Mod) { m.Imps = append(m.Imps, impl.Imp{}) },
		"an Exp too many that is no one":       func(m *impl.Mod) { m.Exps = append(m.Exps, impl.Exp{}) },
		"a Stmt too many that is no one":       func(m *impl.Mod) { m.Stmts = append(m.Stmts, impl.Stmt{}) },
		"a Stmt of an Expr that is no one's":   func(m *impl.Mod) { m.Exprs = nil },
		"Exprs without a Stmt":                 func(m *impl.Mod) { m.Stmts = nil },
		"one more side, and Exprs to hold it":  func(m *impl.Mod) { m.Exprs = append(m.Exprs, impl.Expr{Kind: impl.ExAdd, L: 0, R: 1}) },
		"a Spec with a quote, and the request": func(m *impl.Mod) { m.Requests[0], m.Exps[2].Spec = "\"", "\"" },
	} {
		m := okModule(t)
		if !impl.ModOk(m, false) || len(m.Exprs) != 14 {
			t.Fatalf("%+v is not what the test stands on", m)
		}
		change(&m)
		if impl.ModOk(m, false) {
			t.Errorf("ModOk is true with %s: %+v", what, m)
		}
	}
}

// A request alone is an item, so that each order of them is that of a text; so it is with Imps, and with Exps but the default one.
func TestModOkOfAnotherOrder(t *testing.T) {
	for what, change := range map[string]func(m *impl.Mod){
		"requests the other way": func(m *impl.Mod) { slices.Reverse(m.Requests) },
		"one more request":       func(m *impl.Mod) { m.Requests = append([]string{"q"}, m.Requests...) },
		"Imps the other way":     func(m *impl.Mod) { slices.Reverse(m.Imps) },
		"Exps the other way":     func(m *impl.Mod) { slices.Reverse(m.Exps[:3]) },
		"an Imp less":            func(m *impl.Mod) { m.Imps = m.Imps[1:] },
		"an Exp twice":           func(m *impl.Mod) { m.Exps = append(m.Exps[:1:1], m.Exps...) },
		"other names":            func(m *impl.Mod) { m.Imps[0].From, m.Exps[0].Name, m.Exprs[3].Field = "default", "default", "default" },
		"a space as a name":      func(m *impl.Mod) { m.Imps[0].From = "*" },
		"another Kind": func(m *impl.Mod) {
			m.Stmts[1].Kind, m.Stmts[4].Kind, m.Exprs[2].Kind = impl.StFn, impl.StThrow, impl.ExMul
		},
	} {
		m := okModule(t)
		change(&m)
		if !impl.ModOk(m, false) {
			t.Errorf("ModOk is false with %s: %+v", what, m)
		}
	}
}

func TestModOkOfOneTooMany(t *testing.T) {
	many := func(n int, add func(m *impl.Mod, i int)) impl.Mod {
		m := impl.Mod{}
		for i := range n {
			add(&m, i)
		}
		return m
	}
	for _, c := range []struct {
		most int
		add  func(m *impl.Mod, i int)
	}{
		{impl.MaxNames, func(m *impl.Mod, i int) { m.Requests = append(m.Requests, strings.Repeat("a", i)) }},
		{impl.MaxNames, func(m *impl.Mod, i int) {
			m.Requests, m.Imps = []string{"x"}, append(m.Imps, impl.Imp{Spec: "x", From: "a", Local: "b"})
		}},
		{impl.MaxNames, func(m *impl.Mod, i int) {
			m.Exps = append(m.Exps, impl.Exp{Kind: impl.EpLocal, Name: "a", Local: "b"})
		}},
		{impl.MaxStmts, func(m *impl.Mod, i int) {
			m.Stmts, m.Exprs = append(m.Stmts, impl.Stmt{Kind: impl.StThrow, Expr: i}), append(m.Exprs, impl.Expr{Kind: impl.ExNum})
		}},
		// 1 - (1 - (1 - ..)) has as many ( inside of each other as there are steps.
		{impl.MaxDepth, func(m *impl.Mod, i int) {
			n := i + 2
			m.Exprs = slices.Repeat([]impl.Expr{{Kind: impl.ExNum, Num: 1}}, n+1)
			for j := range n {
				m.Exprs = append(m.Exprs, impl.Expr{Kind: impl.ExSub, L: n - 1 - j, R: n + j})
			}
			m.Stmts = []impl.Stmt{{Kind: impl.StPrint, Expr: 2 * n}}
		}},
		{impl.MaxExprs / 2, func(m *impl.Mod, i int) {
			if i == 0 {
				m.Exprs = []impl.Expr{{Kind: impl.ExNum}, {Kind: impl.ExNum}}
				m.Stmts = []impl.Stmt{{Kind: impl.StThrow}, {Kind: impl.StThrow, Expr: 1}}
				return
			}
			at := len(m.Exprs)
			m.Exprs = append(m.Exprs, impl.Expr{Kind: impl.ExNum}, impl.Expr{Kind: impl.ExMul, L: at - 1, R: at})
			m.Stmts[1].Expr = at + 1
		}},
	} {
		if !impl.ModOk(many(c.most, c.add), false) {
			t.Errorf("ModOk is false of %+v", many(c.most, c.add))
		}
		if impl.ModOk(many(c.most+1, c.add), false) {
			t.Errorf("ModOk is true of %+v", many(c.most+1, c.add))
		}
	}
	// Far more than there may be is no program either, and is answered.
	deep := impl.Mod{Exprs: []impl.Expr{{Kind: impl.ExNum}}}
	for range 1 << 15 {
		at := len(deep.Exprs)
		deep.Exprs = append(deep.Exprs, impl.Expr{Kind: impl.ExNum}, impl.Expr{Kind: impl.ExMul, L: at, R: at - 1})
	}
	deep.Stmts = []impl.Stmt{{Kind: impl.StThrow, Expr: len(deep.Exprs) - 1}}
	for _, script := range inBoth {
		if impl.ModOk(deep, script) {
			t.Error("ModOk is true of a program that is far too deep")
		}
	}
}

// maker makes programs, and the tokens that mean them.
type maker struct {
	*rand.Rand
	script bool
	m      impl.Mod
	tokens []string
}

func (k *maker) one(of ...string) string {
	return of[k.Intn(len(of))]
}

func (k *maker) plain() string {
	return k.one("a", "b", "c", "as", "from", "x1", "_")
}

func (k *maker) put(tokens ...string) {
	k.tokens = append(k.tokens, tokens...)
}

func (k *maker) add(x impl.Expr) int {
	k.m.Exprs = append(k.m.Exprs, x)
	return len(k.m.Exprs) - 1
}

// expr writes an expression that binds at least as tight as level (0 a sum, 1 a product, 2 a part), now and then with ( ) that it does not need.
func (k *maker) expr(level, more int) int {
	kind := 1 + k.Intn(8)
	if more == 0 {
		kind = 1 + k.Intn(5)
	}
	own := []int{0, 2, 2, 2, 2, 2, 0, 0, 1}[kind]
	if own < level || k.Intn(6) == 0 {
		k.put("(")
		defer k.put(")")
	}
	switch kind {
	case impl.ExNum:
		k.put(k.one("0", "7", "1000000"))
		return k.add(impl.Expr{Kind: kind, Num: map[string]int{"0": 0, "7": 7, "1000000": impl.MaxNum}[k.tokens[len(k.tokens)-1]]})
	case impl.ExName, impl.ExCall:
		x := impl.Expr{Kind: kind, Name: k.plain()}
		if k.script && k.Intn(4) == 0 {
			x.Name = "undef"
		}
		k.put(x.Name)
		if kind == impl.ExCall {
			k.put("(", ")")
		}
		return k.add(x)
	case impl.ExMember, impl.ExMemCall:
		x := impl.Expr{Kind: kind, Name: k.plain(), Field: k.one("default", k.plain())}
		k.put(x.Name, ".", x.Field)
		if kind == impl.ExMemCall {
			k.put("(", ")")
		}
		return k.add(x)
	}
	l := k.expr(own, more-1)
	k.put(map[int]string{impl.ExAdd: "+", impl.ExSub: "-", impl.ExMul: "*"}[kind])
	r := k.expr(own+1, more-1)
	return k.add(impl.Expr{Kind: kind, L: l, R: r})
}

func (k *maker) stmt(kind int, name string, behind ...string) {
	expr := k.expr(0, k.Intn(4))
	k.put(behind...)
	k.m.Stmts = append(k.m.Stmts, impl.Stmt{Kind: kind, Name: name, Expr: expr})
}

func (k *maker) statement() string {
	name := k.plain()
	switch k.Intn(6) {
	case 0:
		k.put("let", name, "=")
		k.stmt(impl.StLet, name, ";")
	case 1:
		k.put("function", name, "(", ")", "{", "return")
		k.stmt(impl.StFn, name, ";", "}")
	case 2:
		k.put(name, "=")
		k.stmt(impl.StSet, name, ";")
	case 3:
		k.put("print", "(")
		k.stmt(impl.StPrint, "", ")", ";")
	case 4:
		k.put("throw")
		k.stmt(impl.StThrow, "", ";")
	case 5:
		if k.script {
			k.put("fail")
			k.stmt(impl.StFail, "", ";")
		}
	}
	return name
}

func (k *maker) from() string {
	spec := k.one("x", "y", "", "./z")
	k.put("from", "\""+spec+"\"", ";")
	return k.ask(spec)
}

func (k *maker) ask(spec string) string {
	if !slices.Contains(k.m.Requests, spec) {
		k.m.Requests = append(k.m.Requests, spec)
	}
	return spec
}

// pair writes a name of a list, and tells the first and the last one.
func (k *maker) pair(first, last string, mustTwo bool) (string, string) {
	k.put(first)
	if first == last && !mustTwo && k.Intn(2) == 0 || !mustTwo && k.Intn(3) == 0 {
		return first, first
	}
	k.put("as", last)
	return first, last
}

func (k *maker) importItem() {
	k.put("import")
	imps := []impl.Imp{}
	switch k.Intn(4) {
	case 0:
		spec := k.one("x", "q")
		k.put("\""+spec+"\"", ";")
		k.ask(spec)
		return
	case 1:
		imps = append(imps, impl.Imp{From: "*", Local: k.plain()})
		k.put("*", "as", imps[0].Local)
	case 2:
		imps = append(imps, impl.Imp{From: "default", Local: k.plain()})
		k.put(imps[0].Local)
	case 3:
		comma := "{"
		for range 1 + k.Intn(3) {
			k.put(comma)
			first := k.one("default", k.plain(), k.plain())
			from, local := k.pair(first, k.plain(), first == "default")
			imps = append(imps, impl.Imp{From: from, Local: local})
			comma = ","
		}
		k.put("}")
	}
	spec := k.from()
	for _, imp := range imps {
		imp.Spec = spec
		k.m.Imps = append(k.m.Imps, imp)
	}
}

func (k *maker) exportItem() {
	k.put("export")
	switch k.Intn(5) {
	case 0:
		k.put("*")
		k.m.Exps = append(k.m.Exps, impl.Exp{Kind: impl.EpStar, Spec: k.from()})
	case 1:
		name := k.plain()
		k.put("let", name, "=")
		k.stmt(impl.StLet, name, ";")
		k.m.Exps = append(k.m.Exps, impl.Exp{Kind: impl.EpLocal, Name: name, Local: name})
	case 2:
		name := k.plain()
		k.put("function", name, "(", ")", "{", "return")
		k.stmt(impl.StFn, name, ";", "}")
		k.m.Exps = append(k.m.Exps, impl.Exp{Kind: impl.EpLocal, Name: name, Local: name})
	default:
		k.exportList(k.Intn(2) == 0)
	}
}

func (k *maker) exportList(other bool) {
	exps := []impl.Exp{}
	comma := "{"
	for range 1 + k.Intn(3) {
		k.put(comma)
		first := k.plain()
		if other {
			first = k.one(first, "default")
		}
		local, name := k.pair(first, k.one("default", k.plain()), false)
		exps = append(exps, impl.Exp{Kind: impl.EpLocal, Name: name, Local: local})
		comma = ","
	}
	k.put("}")
	if !other {
		k.put(";")
		k.m.Exps = append(k.m.Exps, exps...)
		return
	}
	spec := k.from()
	for _, exp := range exps {
		exp.Kind, exp.Spec = impl.EpFrom, spec
		k.m.Exps = append(k.m.Exps, exp)
	}
}

// make makes a program of a few items.
func (k *maker) make() (impl.Mod, string) {
	k.m, k.tokens = impl.Mod{}, nil
	defaults := 0
	for range k.Intn(7) {
		switch i := k.Intn(8); {
		case k.script || i < 3:
			k.statement()
		case i < 5:
			k.importItem()
		case i < 7:
			k.exportItem()
		default:
			k.put("export", "default")
			k.stmt(impl.StLet, impl.DefaultName, ";")
			defaults++
		}
	}
	for range defaults {
		k.m.Exps = append(k.m.Exps, impl.Exp{Kind: impl.EpLocal, Name: "default", Local: impl.DefaultName})
	}
	return k.m, strings.Join(k.tokens, " ")
}

func newMaker(script bool) *maker {
	return &maker{Rand: rand.New(rand.NewSource(4)), script: script}
}

func TestProgramsOfManyTexts(t *testing.T) {
	for _, script := range inBoth {
		k := newMaker(script)
		for range 5000 {
			m, text := k.make()
			wantMod(t, text, script, m)
			if t.Failed() {
				return
			}
		}
	}
}

// bookish writes a program in another way than Print: with all ( ) that may stand, and with as in each list.
// What it cannot write it writes as a text that means nothing.
func bookish(m impl.Mod) string {
	text := ""
	for _, r := range m.Requests {
		text += "import \"" + r + "\" ; "
	}
	for _, i := range m.Imps {
		if i.From == "*" {
			text += "import * as " + i.Local + " from \"" + i.Spec + "\" ; "
		} else {
			text += "import { " + i.From + " as " + i.Local + " } from \"" + i.Spec + "\" ; "
		}
	}
	for _, e := range m.Exps {
		switch {
		case e.Kind == impl.EpLocal && e.Local == impl.DefaultName:
		case e.Kind == impl.EpLocal:
			text += "export { " + e.Local + " as " + e.Name + " } ; "
		case e.Kind == impl.EpFrom:
			text += "export { " + e.Local + " as " + e.Name + " } from \"" + e.Spec + "\" ; "
		case e.Kind == impl.EpStar:
			text += "export * from \"" + e.Spec + "\" ; "
		default:
			text += "? "
		}
	}
	for _, s := range m.Stmts {
		e := bookishExpr(m, s.Expr, len(m.Exprs), 0)
		switch {
		case s.Kind == impl.StLet && s.Name == impl.DefaultName:
			text += "export default " + e + " ; "
		case s.Kind == impl.StLet:
			text += "let " + s.Name + " = " + e + " ; "
		case s.Kind == impl.StFn:
			text += "function " + s.Name + " ( ) { return " + e + " ; } "
		case s.Kind == impl.StSet:
			text += s.Name + " = " + e + " ; "
		case s.Kind == impl.StPrint:
			text += "print ( " + e + " ) ; "
		case s.Kind == impl.StThrow:
			text += "throw " + e + " ; "
		case s.Kind == impl.StFail:
			text += "fail " + e + " ; "
		default:
			text += "? "
		}
	}
	return text
}

func bookishExpr(m impl.Mod, i, end, deep int) string {
	if i < 0 || i >= end || deep > 30 {
		return "?"
	}
	x := m.Exprs[i]
	switch x.Kind {
	case impl.ExNum:
		return impl.Dec(x.Num)
	case impl.ExName:
		return x.Name
	case impl.ExCall:
		return x.Name + " ( )"
	case impl.ExMember:
		return x.Name + " . " + x.Field
	case impl.ExMemCall:
		return x.Name + " . " + x.Field + " ( )"
	case impl.ExAdd, impl.ExSub, impl.ExMul:
		return "( " + bookishExpr(m, x.L, i, deep+1) + " ) " + []string{"+", "-", "*"}[x.Kind-impl.ExAdd] + " ( " + bookishExpr(m, x.R, i, deep+1) + " )"
	}
	return "?"
}

// meddle changes one thing of a program.
func (k *maker) meddle(m *impl.Mod) {
	text := k.one("a", "b", "from", "default", "let", "undef", "fail", "*", impl.DefaultName, "", "1", "x y", "$", "a$", "x", "./z", "\"")
	number := []int{-1, 0, 1, 2, 3, 4, 5, 6, 7, 8, 9, len(m.Exprs) - 1, len(m.Exprs), impl.MaxNum, impl.MaxNum + 1}[k.Intn(15)]
	switch list := k.Intn(6); {
	case list == 0 && len(m.Requests) > 0:
		i, j := k.Intn(len(m.Requests)), k.Intn(len(m.Requests))
		switch k.Intn(3) {
		case 0:
			m.Requests[i] = text
		case 1:
			m.Requests[i], m.Requests[j] = m.Requests[j], m.Requests[i]
		case 2:
			m.Requests = slices.Delete(m.Requests, i, i+1)
		}
	case list == 1 && len(m.Imps) > 0:
		i := &m.Imps[k.Intn(len(m.Imps))]
		*[]*string{&i.Spec, &i.From, &i.Local}[k.Intn(3)] = text
	case list == 2 && len(m.Exps) > 0:
		e := &m.Exps[k.Intn(len(m.Exps))]
		switch k.Intn(5) {
		case 0:
			e.Kind = number
		case 1:
			*e = m.Exps[k.Intn(len(m.Exps))]
		default:
			*[]*string{&e.Name, &e.Local, &e.Spec}[k.Intn(3)] = text
		}
	case list == 3 && len(m.Stmts) > 0:
		s := &m.Stmts[k.Intn(len(m.Stmts))]
		switch k.Intn(4) {
		case 0:
			s.Kind = number
		case 1:
			s.Name = text
		case 2:
			s.Expr = number
		case 3:
			*s = m.Stmts[k.Intn(len(m.Stmts))]
		}
	case list > 3 && len(m.Exprs) > 0:
		x := &m.Exprs[k.Intn(len(m.Exprs))]
		switch k.Intn(3) {
		case 0:
			*[]*int{&x.Kind, &x.Num, &x.L, &x.R}[k.Intn(4)] = number
		case 1:
			*[]*string{&x.Name, &x.Field}[k.Intn(2)] = text
		case 2:
			*x = m.Exprs[k.Intn(len(m.Exprs))]
		}
	}
}

func TestModOkIsWhatParseMade(t *testing.T) {
	for _, script := range inBoth {
		k := newMaker(script)
		right, wrong := 0, 0
		for range 20000 {
			m, _ := k.make()
			for range 1 + k.Intn(2) {
				k.meddle(&m)
			}
			again, bad := impl.Parse(bookish(m), script)
			want := bad == -1 && isSameMod(again, m)
			if impl.ModOk(m, script) != want {
				t.Fatalf("ModOk(%v) is %v of %+v", script, !want, m)
			}
			if want {
				right++
			} else {
				wrong++
			}
		}
		if right < 1000 || wrong < 1000 {
			t.Errorf("%d are right, %d are wrong: that tells too little", right, wrong)
		}
	}
}

// withSpare has lists with marked room behind them.
func withSpare(m impl.Mod) impl.Mod {
	return impl.Mod{
		Requests: append(slices.Clone(m.Requests), "spare")[:len(m.Requests)],
		Imps:     append(slices.Clone(m.Imps), impl.Imp{Spec: "spare"})[:len(m.Imps)],
		Exps:     append(slices.Clone(m.Exps), impl.Exp{Spec: "spare"})[:len(m.Exps)],
		Stmts:    append(slices.Clone(m.Stmts), impl.Stmt{Name: "spare"})[:len(m.Stmts)],
		Exprs:    append(slices.Clone(m.Exprs), impl.Expr{Name: "spare"})[:len(m.Exprs)],
	}
}

// wantSpare asks that nothing was written into what withSpare made of m, nor behind it.
func wantSpare(t *testing.T, spare, m impl.Mod) {
	t.Helper()
	ends := []string{spare.Requests[:len(m.Requests)+1][len(m.Requests)], spare.Imps[:len(m.Imps)+1][len(m.Imps)].Spec, spare.Exps[:len(m.Exps)+1][len(m.Exps)].Spec, spare.Stmts[:len(m.Stmts)+1][len(m.Stmts)].Name, spare.Exprs[:len(m.Exprs)+1][len(m.Exprs)].Name}
	if !isSameMod(spare, m) || slices.ContainsFunc(ends, func(s string) bool { return s != "spare" }) {
		t.Errorf("an argument is written into: %+v", spare)
	}
}

func TestProgramsAreNotWrittenInto(t *testing.T) {
	for _, script := range inBoth {
		for _, s := range someTexts(script) {
			m, bad := impl.Parse(s, script)
			if bad != -1 {
				continue
			}
			spare := withSpare(m)
			impl.ModOk(spare, script)
			impl.ModOk(spare, !script)
			wantSpare(t, spare, m)
		}
	}
}
