package tests

import (
	"slices"
	"strings"
	"testing"

	"loop.example/g00777/impl"
)

// mapRules are rules, each a Prefix and behind it what it stands for.
func mapRules(pairs ...string) []impl.Rule {
	l := []impl.Rule{}
	for i := 0; i < len(pairs); i += 2 {
		l = append(l, impl.Rule{Prefix: pairs[i], To: pairs[i+1]})
	}
	return l
}

// wantSpec asks for what comes of a spec; where that is the spec itself, it stays.
func wantSpec(t *testing.T, l []impl.Rule, spec, want string) {
	t.Helper()
	if got := impl.MapSpec(l, spec); got != want {
		t.Errorf("MapSpec(%.300q, %.60q) = %.60q, not %.60q", l, spec, got, want)
	}
}

// wantRulesOk asks that rules are right.
func wantRulesOk(t *testing.T, what string, l []impl.Rule) {
	t.Helper()
	if !impl.RulesOk(l) {
		t.Errorf("%s: RulesOk(%.300q) is false", what, l)
	}
}

// wantNoRules asks that rules are not right, and that nothing comes of them: each spec stays, and each module.
func wantNoRules(t *testing.T, what string, l []impl.Rule) {
	t.Helper()
	if impl.RulesOk(l) {
		t.Errorf("%s: RulesOk(%.300q) is true", what, l)
	}
	for _, r := range l {
		for _, spec := range []string{r.Prefix, r.Prefix + "x", r.Prefix + "/", r.Prefix + "/x", "a", "a/b", "x"} {
			wantSpec(t, l, spec, spec)
		}
	}
	m := mustParse(t, `import { v } from "a"; import "a/b"; import "x"; export * from "b/c"; export { w } from "a"; print(v);`, false)
	if got, ok := impl.MapMod(l, m); !ok || !isSameMod(got, m) {
		t.Errorf("%s: MapMod(%.300q) is %+v, %v", what, l, got, ok)
	}
}

func TestMapConstants(t *testing.T) {
	if impl.MaxRules != 8 {
		t.Errorf("MaxRules is %d", impl.MaxRules)
	}
}

func TestRulesInTheirNumber(t *testing.T) {
	all := mapRules("a", "1", "a/", "2", "b", "3", "c", "4", "d", "5", "e", "6", "f/", "7", "g", "8", "h", "9")
	for n := range impl.MaxRules + 1 {
		wantRulesOk(t, "some", all[:n])
		wantRulesOk(t, "the last ones", all[len(all)-n:])
	}
	wantNoRules(t, "one too many", all[:impl.MaxRules+1])
	many := []impl.Rule{}
	for c := '0'; c < '0'+40; c++ {
		many = append(many, impl.Rule{Prefix: string(c), To: "x"})
	}
	wantNoRules(t, "many", many[:20])
	wantRulesOk(t, "none", nil)
	wantRulesOk(t, "none", []impl.Rule{})
}

func TestRulesInTheirLength(t *testing.T) {
	for _, c := range []struct {
		prefix, to int
		right      bool
	}{
		{1, 0, true}, {1, 1, true}, {2, 2, true}, {impl.MaxStr, 0, true}, {impl.MaxStr, impl.MaxStr, true}, {1, impl.MaxStr, true}, {impl.MaxStr - 1, impl.MaxStr - 1, true},
		{0, 0, false}, {0, 1, false}, {0, impl.MaxStr, false}, {impl.MaxStr + 1, 0, false}, {impl.MaxStr + 1, impl.MaxStr, false}, {1, impl.MaxStr + 1, false}, {impl.MaxStr, impl.MaxStr + 1, false}, {impl.MaxStr + 1, impl.MaxStr + 1, false}, {1 << 16, 1, false}, {1, 1 << 16, false},
	} {
		r := impl.Rule{Prefix: letters(c.prefix), To: letters(c.to)}
		for what, l := range map[string][]impl.Rule{
			"alone": {r}, "first": {r, {Prefix: "b", To: "x"}}, "last": {{Prefix: "\x20", To: "x"}, r}, "between": {{Prefix: "\x20", To: "x"}, r, {Prefix: "b", To: "x"}},
		} {
			if c.right {
				wantRulesOk(t, what, l)
			} else {
				wantNoRules(t, what, l)
			}
		}
	}
	wantNoRules(t, "the zero rule", []impl.Rule{{}})
	wantNoRules(t, "without a Prefix, to itself", mapRules("", "a"))
}

func TestRulesOfAllBytes(t *testing.T) {
	for c := range 256 {
		s := string([]byte{byte(c)})
		right := c >= 32 && c <= 126 && c != '"' && c != '\\'
		for _, text := range []string{s, s + "b", "a" + s, "a" + s + "b", letters(impl.MaxStr-1) + s, s + letters(impl.MaxStr-1)} {
			for _, l := range [][]impl.Rule{mapRules(text, "x"), mapRules("a", text), mapRules(text, text), mapRules(" ", "x", "a", text, "b", "y"), mapRules("a", "x", "b", "y", "c", text)} {
				if right {
					wantRulesOk(t, "a byte", l)
				} else {
					wantNoRules(t, "a byte", l)
				}
			}
		}
	}
	// Those of which the document says it.
	for s, right := range map[string]bool{"\x1f": false, " ": true, "~": true, "\x7f": false, "\"": false, "\\": false, "!": true, "#": true, "[": true, "]": true, "\n": false, "\x00": false, "\xff": false, "ä": false} {
		if got := impl.RulesOk(mapRules(s, "")); got != right {
			t.Errorf("RulesOk of the Prefix %q is %v", s, got)
		}
		if got := impl.RulesOk(mapRules("a", s)); got != right {
			t.Errorf("RulesOk of To %q is %v", s, got)
		}
	}
}

func TestRulesRise(t *testing.T) {
	for _, l := range [][]impl.Rule{
		mapRules("a", "x", "b", "x"), mapRules("a", "x", "aa", "x"), mapRules("a", "x", "a/", "x"), mapRules("a-", "x", "a/", "x", "a0", "x"), mapRules("A", "x", "a", "x"), mapRules("Z", "x", "a", "x"),
		mapRules("a", "z", "b", "y", "c", "x"), mapRules("/", "", "/a", "", "/a/", ""), mapRules(" ", "", "~", ""), mapRules("10", "x", "9", "x"),
		// To is not asked for an order, and two may be alike.
		mapRules("a", "b", "b", "a"), mapRules("a", "a", "b", "b"), mapRules("a", "", "b", ""),
	} {
		wantRulesOk(t, "they rise", l)
		backward := slices.Clone(l)
		slices.Reverse(backward)
		wantNoRules(t, "they fall", backward)
		for i := range l {
			wantNoRules(t, "two alike", slices.Insert(slices.Clone(l), i, l[i]))
			wantNoRules(t, "two alike, but for To", slices.Insert(slices.Clone(l), i, impl.Rule{Prefix: l[i].Prefix, To: "other"}))
			wantNoRules(t, "the first one at the end, too", append(slices.Clone(l), l[0]))
		}
	}
	wantNoRules(t, "one is out of order", mapRules("a", "x", "c", "x", "b", "x", "d", "x"))
	wantNoRules(t, "the last one is out of order", mapRules("b", "x", "c", "x", "d", "x", "a", "x"))
	wantNoRules(t, "the first one is out of order", mapRules("d", "x", "a", "x", "b", "x", "c", "x"))
}

func TestMapSpecTexts(t *testing.T) {
	l := mapRules("../up", "./down", "./", "/here/", "/", "//", "a", "b", "b", "c", "p/", "q/", "p/q", "just", "p/q/", "deep/")
	for _, c := range [][2]string{
		// Just that name.
		{"../up", "./down"}, {"a", "b"}, {"b", "c"}, {"p/q", "just"},
		// A Prefix without / that only begins it.
		{"ab", "ab"}, {"a/", "a/"}, {"a/b", "a/b"}, {"aa", "aa"}, {"a.js", "a.js"}, {"../up/x", "../up/x"}, {"../upper", "../upper"}, {"p/qq", "q/qq"},
		// A Prefix that ends with /.
		{"./", "/here/"}, {"./x", "/here/x"}, {"./x/y", "/here/x/y"}, {"././", "/here/./"}, {"./.", "/here/."}, {"/", "//"}, {"/x", "//x"}, {"//", "///"}, {"/./x", "//./x"},
		{"p/", "q/"}, {"p/x", "q/x"}, {"p//", "q//"}, {"p/ ", "q/ "}, {"p", "p"},
		// Several begin it.
		{"p/q/", "deep/"}, {"p/q/r", "deep/r"}, {"p/q/q/", "deep/q/"}, {"p/qr/", "q/qr/"}, {"p/q.", "q/q."},
		// None is for it.
		{"", ""}, {"c", "c"}, {"..", ".."}, {"../", "../"}, {".", "."}, {".x", ".x"}, {"q/p/", "q/p/"}, {" a", " a"}, {"a ", "a "}, {" p/q", " p/q"}, {"A", "A"}, {"xa", "xa"}, {"x./y", "x./y"}, {"just", "just"}, {"deep/x", "deep/x"},
	} {
		wantSpec(t, l, c[0], c[1])
		wantSpec(t, nil, c[0], c[0])
		wantSpec(t, []impl.Rule{}, c[0], c[0])
	}
}

// A rule is taken once: what comes of it is not mapped again.
func TestMapSpecOnce(t *testing.T) {
	wantSpec(t, mapRules("a", "b", "b", "c"), "a", "b")
	wantSpec(t, mapRules("a", "b", "b", "a"), "a", "b")
	wantSpec(t, mapRules("a", "b", "b", "a"), "b", "a")
	wantSpec(t, mapRules("a/", "a/a/"), "a/x", "a/a/x")
	wantSpec(t, mapRules("a/", "", "b", "c"), "a/a/b", "a/b")
	wantSpec(t, mapRules("a/", "", "b", "c"), "a/b", "b")
}

func TestMapSpecByTheLongestRule(t *testing.T) {
	l := mapRules("/", "1", "/a", "2", "/a/", "3", "/a/a", "4", "/a/a/", "5", "/a/a/a", "6", "/a/a/a/", "7", "/a/b/", "8")
	for _, c := range [][2]string{
		{"/", "1"}, {"/a", "2"}, {"/a/", "3"}, {"/a/a", "4"}, {"/a/a/", "5"}, {"/a/a/a", "6"}, {"/a/a/a/", "7"}, {"/a/a/a/a", "7a"}, {"/a/a/a/a/a/", "7a/a/"},
		{"/b", "1b"}, {"/aa", "1aa"}, {"/a/aa", "3aa"}, {"/a/c", "3c"}, {"/a/a/aa", "5aa"}, {"/a/b", "3b"}, {"/a/b/", "8"}, {"/a/b/c", "8c"}, {"/b/a/", "1b/a/"},
	} {
		wantSpec(t, l, c[0], c[1])
	}
	// Each of them alone, and each of them lacking.
	for i, r := range l {
		rest := slices.Delete(slices.Clone(l), i, i+1)
		for _, spec := range []string{"/", "/a", "/a/", "/a/a", "/a/a/", "/a/a/a", "/a/a/a/", "/a/a/a/a", "/a/b/c"} {
			wantSpec(t, l[i:i+1], spec, plainMapSpec(l[i:i+1], spec))
			if plainMapSpec(l[i:i+1], spec) == spec {
				wantSpec(t, rest, spec, impl.MapSpec(l, spec))
			}
		}
		wantSpec(t, l[i:i+1], r.Prefix, r.To)
	}
	// The longest Prefix counts, not the longest To, nor that of the most bytes put.
	wantSpec(t, mapRules("a/", letters(20), "a/b/", ""), "a/b/c", "c")
	wantSpec(t, mapRules("a/", "", "a/b/", letters(20)), "a/b/c", letters(20)+"c")
	wantSpec(t, mapRules("a/", "x", "a/b", "y"), "a/b", "y")
}

func TestMapSpecToNothing(t *testing.T) {
	l := mapRules("./", "", "a", "", "a/", "", "b/c/", "")
	for _, c := range [][2]string{{"a", ""}, {"a/", ""}, {"a/x", "x"}, {"a/a/", "a/"}, {"./", ""}, {"./x", "x"}, {"././x", "./x"}, {"b/c/", ""}, {"b/c/d", "d"}, {"b/c", "b/c"}, {"", ""}} {
		wantSpec(t, l, c[0], c[1])
	}
}

func TestMapSpecAtItsLength(t *testing.T) {
	const most = impl.MaxStr
	// To and what stands behind have MaxStr bytes, or one more.
	for to := range most + 1 {
		l := mapRules("p/", strings.Repeat("t", to))
		fits := letters(most - to)
		wantSpec(t, l, "p/"+fits, strings.Repeat("t", to)+fits)
		wantSpec(t, l, "p/"+fits+"a", "p/"+fits+"a")
		wantSpec(t, l, "p/"+fits+"aa", "p/"+fits+"aa")
	}
	// The Prefix is of no weight: a spec of more bytes than a string has may become shorter.
	long := letters(most-1) + "/"
	wantSpec(t, mapRules(long, ""), long+letters(most), letters(most))
	wantSpec(t, mapRules(long, ""), long+letters(most+1), long+letters(most+1))
	wantSpec(t, mapRules(long, "tt"), long+letters(most-2), "tt"+letters(most-2))
	wantSpec(t, mapRules(long, "tt"), long+letters(most-1), long+letters(most-1))
	wantSpec(t, mapRules(letters(most), letters(most-1)+"b"), letters(most), letters(most-1)+"b")
	wantSpec(t, mapRules(letters(most), "b"), letters(most+1), letters(most+1))
	wantSpec(t, mapRules(letters(most), "b"), letters(most-1), letters(most-1))
	wantSpec(t, mapRules("p/", "q/"), "p/"+letters(1<<16), "p/"+letters(1<<16))
	wantSpec(t, mapRules("p/", "q/"), letters(1<<16), letters(1<<16))
	// Where the longest one's does not fit, no shorter one is taken.
	l := mapRules("a/", "x", "a/b/", letters(most))
	wantSpec(t, l, "a/b/", letters(most))
	wantSpec(t, l, "a/b/c", "a/b/c")
	wantSpec(t, l, "a/bc", "xbc")
}

// A spec may have any bytes; those of the rules alone are bound.
func TestMapSpecOfOddBytes(t *testing.T) {
	l := mapRules(" ", "~", " /", "~~", "p/", "q/")
	for _, c := range [][2]string{{" ", "~"}, {" /", "~~"}, {" / ", "~~ "}, {"p/\"", "q/\""}, {"p/\\", "q/\\"}, {"p/\x00\n", "q/\x00\n"}, {"p/\xff\x80", "q/\xff\x80"}, {"p/ä", "q/ä"}, {"\"", "\""}, {"\\p/", "\\p/"}, {"\x00", "\x00"}, {"p\x00/", "p\x00/"}, {"\np/", "\np/"}} {
		wantSpec(t, l, c[0], c[1])
	}
}

// wantMapped asks that MapMod makes of one text's module that of another one.
func wantMapped(t *testing.T, l []impl.Rule, text, want string) {
	t.Helper()
	got, ok := impl.MapMod(l, mustParse(t, text, false))
	if m := mustParse(t, want, false); !ok || !isSameMod(got, m) {
		t.Errorf("MapMod(%.300q) of %q is %+v, %v, not %+v", l, text, got, ok, m)
	}
	wantMapHeld(t, l, mustParse(t, text, false))
}

func TestMapModTexts(t *testing.T) {
	l := mapRules("./a", "./b", "p", "q", "p/", "/lib/p/")
	for _, c := range [][2]string{
		{``, ``},
		{`let x = 1; print(x);`, `let x = 1; print(x);`},
		// Each item that asks.
		{`import "./a";`, `import "./b";`},
		{`import "p/x";`, `import "/lib/p/x";`},
		{`import { v } from "./a";`, `import { v } from "./b";`},
		{`import { v as w, default as d, x } from "p";`, `import { v as w, default as d, x } from "q";`},
		{`import * as n from "p/n"; print(n.a + n.b());`, `import * as n from "/lib/p/n"; print(n.a + n.b());`},
		{`import d from "./a"; d = d();`, `import d from "./b"; d = d();`},
		{`export { v } from "./a";`, `export { v } from "./b";`},
		{`export { v as w, default, x as default } from "p";`, `export { v as w, default, x as default } from "q";`},
		{`export * from "p/";`, `export * from "/lib/p/";`},
		// None of these asks.
		{`export let p = 1; export function f() { return p; } export { p as q }; export default p * 2; throw f();`, `export let p = 1; export function f() { return p; } export { p as q }; export default p * 2; throw f();`},
		// No rule is for it.
		{`import "./aa"; import ""; import "P"; export * from "./A"; import { p } from "/p";`, `import "./aa"; import ""; import "P"; export * from "./A"; import { p } from "/p";`},
		// All at once.
		{`import "r"; import { v } from "./a"; export * from "p"; import * as n from "p/n"; export { v }; export { w } from "p/w"; export default n.x; print(v);`,
			`import "r"; import { v } from "./b"; export * from "q"; import * as n from "/lib/p/n"; export { v }; export { w } from "/lib/p/w"; export default n.x; print(v);`},
		// A name that a rule is for is none but in a request.
		{`import { p } from "p"; print(p); p = p();`, `import { p } from "q"; print(p); p = p();`},
	} {
		wantMapped(t, l, c[0], c[1])
		wantMapped(t, nil, c[0], c[0])
	}
}

func TestMapModOfRequestsThatBecomeAlike(t *testing.T) {
	l := mapRules("a", "c", "b", "c", "d/", "", "e", "")
	for _, c := range [][2]string{
		// Where the first one stood.
		{`import "a"; import "x"; import "b"; import "y";`, `import "c"; import "x"; import "y";`},
		{`import "x"; import "b"; import "a";`, `import "x"; import "c";`},
		// One that stays becomes like one that is mapped, ahead and behind.
		{`import "c"; import "x"; import "a";`, `import "c"; import "x";`},
		{`import "a"; import "x"; import "c";`, `import "c"; import "x";`},
		{`import "a"; import "b"; import "c";`, `import "c";`},
		{`import "c"; import "b"; import "a"; import "d/c"; import "z";`, `import "c"; import "z";`},
		{`import "z"; import "d/z"; import "d/d/z"; import "d/d/d/z";`, `import "z"; import "d/z"; import "d/d/z";`},
		{`import ""; import "e"; import "d/"; import "a";`, `import ""; import "c";`},
		{`import "e"; import "x"; import "d/"; import "";`, `import ""; import "x";`},
		// What names them names that one.
		{`import { v } from "a"; import { w } from "b"; import { x } from "c"; export * from "a"; export * from "b"; export { v } from "d/c"; export { z } from "z";`,
			`import { v } from "c"; import { w } from "c"; import { x } from "c"; export * from "c"; export * from "c"; export { v } from "c"; export { z } from "z";`},
		{`export { q } from "x"; import * as n from "b"; import d from "a";`, `export { q } from "x"; import * as n from "c"; import d from "c";`},
		// That two Imps or Exps become alike is nothing to ask for: they stay two.
		{`import { v } from "a"; import { v } from "b";`, `import { v } from "c"; import { v } from "c";`},
		{`export * from "a"; export * from "b"; export { v } from "a"; export { v } from "b";`, `export * from "c"; export * from "c"; export { v } from "c"; export { v } from "c";`},
	} {
		wantMapped(t, l, c[0], c[1])
		wantMapped(t, nil, c[0], c[0])
	}
	// Two change their names: they do not become alike.
	wantMapped(t, mapRules("a", "b", "b", "a"), `import { v } from "a"; import { w } from "b";`, `import { v } from "b"; import { w } from "a";`)
	wantMapped(t, mapRules("a", "b", "b", "c", "c", "a"), `import "a"; import "b"; import "c"; export * from "b";`, `import "b"; import "c"; import "a"; export * from "c";`)
	// What is too long stays, and may so be like another one that becomes it.
	long := "p/" + letters(impl.MaxStr-2)
	wantMapped(t, mapRules("a", long, "p/", "ppp/"), `import { v } from "`+long+`"; import { w } from "a"; import "p/x";`, `import { v } from "`+long+`"; import { w } from "`+long+`"; import "ppp/x";`)
}

// Requests may stand in another order than what names them, and some of them are named by nothing.
func TestMapModOfRequestsInAnyOrder(t *testing.T) {
	m := impl.Mod{
		Requests: []string{"z", "b", "c", "a", "e"},
		Imps:     []impl.Imp{{Spec: "a", From: "v", Local: "v"}, {Spec: "z", From: "*", Local: "n"}},
		Exps:     []impl.Exp{{Kind: impl.EpStar, Spec: "b"}, {Kind: impl.EpFrom, Name: "q", Local: "r", Spec: "a"}, {Kind: impl.EpLocal, Name: "v", Local: "v"}},
	}
	got, ok := impl.MapMod(mapRules("a", "c", "e", "z", "z", "y"), m)
	want := impl.Mod{
		Requests: []string{"y", "b", "c", "z"},
		Imps:     []impl.Imp{{Spec: "c", From: "v", Local: "v"}, {Spec: "y", From: "*", Local: "n"}},
		Exps:     []impl.Exp{{Kind: impl.EpStar, Spec: "b"}, {Kind: impl.EpFrom, Name: "q", Local: "r", Spec: "c"}, {Kind: impl.EpLocal, Name: "v", Local: "v"}},
	}
	if !ok || !isSameMod(got, want) {
		t.Errorf("MapMod is %+v, %v, not %+v", got, ok, want)
	}
}

// wantNoMap asks for nothing, and with each of some rules.
func wantNoMap(t *testing.T, what string, m impl.Mod) {
	t.Helper()
	for _, l := range [][]impl.Rule{nil, mapRules("a", "b"), mapRules("a", "b", "s", "t", "x", "y"), mapRules("\"", "x"), mapRules("b", "x", "a", "y")} {
		if got, ok := impl.MapMod(l, m); ok || !isSameMod(got, impl.Mod{}) {
			t.Errorf("%s: MapMod(%q, %+v) = %+v, %v", what, l, m, got, ok)
		}
	}
}

func TestMapModOfWhatIsNotRight(t *testing.T) {
	for what, change := range map[string]func(m *impl.Mod){
		"a request with a quote":                func(m *impl.Mod) { m.Requests[0] = "\"" },
		"a request that is too long":            func(m *impl.Mod) { m.Requests[0] = letters(impl.MaxStr + 1) },
		"a request with a byte 127":             func(m *impl.Mod) { m.Requests = append(m.Requests, "\x7f") },
		"a request twice":                       func(m *impl.Mod) { m.Requests = append(m.Requests, m.Requests[0]) },
		"a request that lacks, of an Imp":       func(m *impl.Mod) { m.Imps[0].Spec = "elsewhere" },
		"a request that lacks, of an EpFrom":    func(m *impl.Mod) { m.Exps[1].Spec = "elsewhere" },
		"a request that lacks, of an EpStar":    func(m *impl.Mod) { m.Exps[2].Spec = "elsewhere" },
		"no requests":                           func(m *impl.Mod) { m.Requests = nil },
		"an EpLocal with Spec":                  func(m *impl.Mod) { m.Exps[0].Spec = "s" },
		"an EpStar with a Name":                 func(m *impl.Mod) { m.Exps[2].Name = "a" },
		"an Exp of no Kind":                     func(m *impl.Mod) { m.Exps[0].Kind = 0 },
		"an Imp without a name":                 func(m *impl.Mod) { m.Imps[0].Local = "" },
		"an Imp whose Local is a word":          func(m *impl.Mod) { m.Imps[0].Local = "let" },
		"a Stmt without its Expr":               func(m *impl.Mod) { m.Stmts[0].Expr = -1 },
		"a Stmt of no Kind":                     func(m *impl.Mod) { m.Stmts[0].Kind = 9 },
		"an Expr that is no one's":              func(m *impl.Mod) { m.Exprs = append(m.Exprs, impl.Expr{Kind: impl.ExNum}) },
		"an Expr that is too great":             func(m *impl.Mod) { m.Exprs[0].Num = impl.MaxNum + 1 },
		"an Expr with a side of its own":        func(m *impl.Mod) { m.Exprs[2].L = 2 },
		"a default that is not the last export": func(m *impl.Mod) { slices.Reverse(m.Exps) },
	} {
		m := okModule(t)
		wantMapHeld(t, mapRules("r", "s", "t", "u"), m)
		change(&m)
		if impl.ModOk(m, false) {
			t.Fatalf("%s: it is right", what)
		}
		wantNoMap(t, what, m)
	}
	// What would become right by the rules is not taken: it is asked ahead of them.
	twice := impl.Mod{Requests: []string{"a", "a"}}
	lacking := impl.Mod{Requests: []string{"b"}, Imps: []impl.Imp{{Spec: "a", From: "v", Local: "v"}}}
	tooLong := impl.Mod{Requests: []string{"a/" + letters(impl.MaxStr)}}
	for _, m := range []impl.Mod{twice, lacking, tooLong} {
		if got, ok := impl.MapMod(mapRules("a", "b", "a/", ""), m); ok || !isSameMod(got, impl.Mod{}) {
			t.Errorf("MapMod of %+v is %+v, %v", m, got, ok)
		}
	}
}

func TestMapModOfScripts(t *testing.T) {
	for _, s := range []string{"fail 1;", "let a$ = 1;", "print($);", "a$1 = 2;", "function f$() { return 1; }", "print(1); fail a;"} {
		wantNoMap(t, s, mustParse(t, s, true))
	}
	// What is a script and a module is a module.
	for _, s := range []string{"", "let a = 1; print(a);", "print(undef); throw undef();"} {
		m := mustParse(t, s, true)
		if got, ok := impl.MapMod(mapRules("a", "b", "undef", "x"), m); !ok || !isSameMod(got, m) {
			t.Errorf("MapMod of %q is %+v, %v", s, got, ok)
		}
	}
}

// What Early tells is nothing to MapMod: such a module is ModOk.
func TestMapModOfEarlyErrors(t *testing.T) {
	l := mapRules("/", "./", "a", "b", "x", "y")
	for _, s := range earlyTexts() {
		wantMapHeld(t, l, mustParse(t, s, false))
	}
	wantMapped(t, l, `import { v } from "a"; let v = 1; export { none };`, `import { v } from "b"; let v = 1; export { none };`)
}

func TestMapModAtTheLimits(t *testing.T) {
	m := fullMod()
	ones := make([]impl.Rule, 0, impl.MaxRules)
	for _, spec := range m.Requests[:impl.MaxRules] {
		ones = append(ones, impl.Rule{Prefix: spec, To: m.Requests[impl.MaxNames-1]})
	}
	got, ok := impl.MapMod(ones, m)
	if want := slices.Concat(m.Requests[impl.MaxNames-1:], m.Requests[impl.MaxRules:impl.MaxNames-1]); !ok || !slices.Equal(got.Requests, want) {
		t.Errorf("the requests are %q, %v", got.Requests, ok)
	}
	if len(got.Imps) != impl.MaxNames || got.Imps[0].Spec != m.Requests[impl.MaxNames-1] || got.Exps[impl.MaxRules].Spec != m.Requests[impl.MaxRules] {
		t.Errorf("the Imps and Exps are %v and %v", got.Imps, got.Exps)
	}
	wantMapHeld(t, ones, m)
	wantMapHeld(t, nil, m)
	// As many requests as there may be, all of them mapped: some of them as long as one may be, some one byte too long.
	for i := range m.Requests {
		spec := "p/" + letters(i)
		if len(spec) > impl.MaxStr {
			spec = "p/b"
		}
		m.Requests[i], m.Imps[i].Spec, m.Exps[i].Spec = spec, spec, spec
	}
	for _, to := range []string{"", "q", "q/", "qq/", letters(impl.MaxStr), "p/a", "p"} {
		wantMapHeld(t, mapRules("p/", to), m)
	}
	m.Requests = append(m.Requests, "p/one too many")
	wantNoMap(t, "one request too many", m)
	// Requests that would become alike are too many all the same.
	if _, ok := impl.MapMod(mapRules("p/one too many", "p/b"), m); ok {
		t.Error("one request too many is taken")
	}
}
