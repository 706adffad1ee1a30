package tests

import (
	"math/rand"
	"regexp"
	"slices"
	"strings"
	"testing"

	"loop.example/g00777/impl"
)

// plainStr is what a string of a program may have between its quotes.
var plainStr = regexp.MustCompile(`^[ !#-\[\]-~]{0,40}$`)

func plainRulesOk(l []impl.Rule) bool {
	prefixes := []string{}
	for _, r := range l {
		if r.Prefix == "" || !plainStr.MatchString(r.Prefix) || !plainStr.MatchString(r.To) {
			return false
		}
		prefixes = append(prefixes, r.Prefix)
	}
	sorted := slices.Clone(prefixes)
	slices.Sort(sorted)
	return len(l) <= 8 && slices.Equal(prefixes, slices.Compact(sorted))
}

// plainMapSpec cuts a spec at each of its places, from the end on, and asks which rule has just what is ahead.
func plainMapSpec(l []impl.Rule, spec string) string {
	if !plainRulesOk(l) {
		return spec
	}
	to := map[string]string{}
	for _, r := range l {
		to[r.Prefix] = r.To
	}
	for cut := len(spec); cut > 0; cut-- {
		put, found := to[spec[:cut]]
		if !found || cut < len(spec) && spec[cut-1] != '/' {
			continue
		}
		if put += spec[cut:]; len(put) <= 40 {
			return put
		}
		return spec
	}
	return spec
}

// plainMapText maps each string of a text where it stands: what Parse makes of that has each request once, where it first stands.
func plainMapText(l []impl.Rule, s string) string {
	text, at := "", 0
	tokens, _ := impl.Lex(s, false)
	for _, k := range tokens {
		if k.Kind == impl.TkStr {
			text += s[at:k.At] + "\"" + plainMapSpec(l, k.Text) + "\""
			at = k.At + len(k.Text) + 2
		}
	}
	return text + s[at:]
}

// wantMapHeld holds MapMod against MapSpec, against ModOk, and against a text that is mapped; it tells whether requests became alike.
func wantMapHeld(t *testing.T, l []impl.Rule, m impl.Mod) bool {
	t.Helper()
	got, ok := impl.MapMod(l, m)
	if ok != impl.ModOk(m, false) {
		t.Fatalf("MapMod(%q, %+v) is %v", l, m, ok)
	}
	if !ok {
		if !isSameMod(got, impl.Mod{}) {
			t.Fatalf("MapMod(%q, %+v) is false, beside %+v", l, m, got)
		}
		return false
	}
	want := cloneMod(m)
	requests := map[string]int{}
	want.Requests = slices.DeleteFunc(want.Requests, func(s string) bool {
		requests[impl.MapSpec(l, s)]++
		return requests[impl.MapSpec(l, s)] > 1
	})
	for i, s := range want.Requests {
		want.Requests[i] = impl.MapSpec(l, s)
	}
	for i := range want.Imps {
		want.Imps[i].Spec = impl.MapSpec(l, m.Imps[i].Spec)
	}
	for i, e := range m.Exps {
		if e.Kind != impl.EpLocal {
			want.Exps[i].Spec = impl.MapSpec(l, e.Spec)
		}
	}
	if !isSameMod(got, want) || !impl.ModOk(got, false) {
		t.Fatalf("MapMod(%q, %+v) is %+v, not %+v", l, m, got, want)
	}
	text := plainMapText(l, impl.Print(m, false))
	if again, bad := impl.Parse(text, false); bad != -1 || !isSameMod(got, again) {
		t.Fatalf("MapMod(%q, %+v) is %+v, but of the mapped text %q it is %+v, %d", l, m, got, text, again, bad)
	}
	if !plainRulesOk(l) || len(l) == 0 {
		if !isSameMod(got, m) {
			t.Fatalf("MapMod(%q) without rules makes %+v of %+v", l, got, m)
		}
	}
	return len(got.Requests) < len(m.Requests)
}

// mapTexts are all texts of at most n of these bytes.
func mapTexts(n int, bytes string) []string {
	texts, last := []string{""}, []string{""}
	for range n {
		next := []string{}
		for _, s := range last {
			for i := range len(bytes) {
				next = append(next, s+bytes[i:i+1])
			}
		}
		texts, last = append(texts, next...), next
	}
	return texts
}

func TestMapSpecOfAllShortTexts(t *testing.T) {
	prefixes, specs := mapTexts(3, "a/"), mapTexts(5, "a/")
	held := func(l []impl.Rule) int {
		if got := impl.RulesOk(l); got != plainRulesOk(l) {
			t.Fatalf("RulesOk(%q) is %v", l, got)
		}
		mapped := 0
		for _, spec := range specs {
			got, want := impl.MapSpec(l, spec), plainMapSpec(l, spec)
			if got != want {
				t.Fatalf("MapSpec(%q, %q) = %q, not %q", l, spec, got, want)
			}
			if got != spec {
				mapped++
			}
		}
		return mapped
	}
	right, mapped := 0, 0
	for _, a := range prefixes {
		mapped += held(mapRules(a, "x"))
		for _, b := range prefixes {
			mapped += held(mapRules(a, "", b, "y/"))
			for _, c := range prefixes {
				l := mapRules(a, "x", b, "y", c, "z/")
				if impl.RulesOk(l) {
					right++
				}
				mapped += held(l)
			}
		}
	}
	// Of 14 Prefixes three rise in 14 * 13 * 12 / 6 ways.
	if right != 364 || mapped < 1000 {
		t.Errorf("%d rules are right, %d specs were mapped", right, mapped)
	}
}

// Each rule there may be for one spec, of each length of what it stands for.
func TestMapSpecOfAllLengths(t *testing.T) {
	for n := range impl.MaxStr + 3 {
		for _, part := range []string{"a", "/", "a/", "ab/", "aaaaaaaaa/"} {
			spec := strings.Repeat(part, impl.MaxStr+3)[:n]
			for cut := range n + 1 {
				for _, to := range []int{0, 1, cut - 1, cut, cut + 1, impl.MaxStr - (n - cut) - 1, impl.MaxStr - (n - cut), impl.MaxStr - (n - cut) + 1, impl.MaxStr, impl.MaxStr + 1} {
					l := mapRules(spec[:cut], strings.Repeat("t", max(to, 0)))
					if got, want := impl.MapSpec(l, spec), plainMapSpec(l, spec); got != want {
						t.Fatalf("MapSpec(%q, %q) = %q, not %q", l, spec, got, want)
					}
				}
			}
		}
	}
}

// mapPart is a part of a spec out of few, so that rules are for it now and then.
func mapPart(r *rand.Rand) string {
	return []string{"a", "b", "/", "/", "./", "../", "x", "y", "q", "./z", "", "a/b/", " "}[r.Intn(13)]
}

func mapText(r *rand.Rand) string {
	s := mapPart(r)
	for range r.Intn(3) {
		s += mapPart(r)
	}
	if r.Intn(12) == 0 {
		s += strings.Repeat("a", impl.MaxStr-1-r.Intn(4))
	}
	return s
}

// manyRules rise mostly, and are often for these specs; now and then they are not right for one thing.
func manyRules(r *rand.Rand, specs ...string) []impl.Rule {
	text := func() string {
		if i := r.Intn(2*len(specs) + 1); i < len(specs) {
			return specs[i]
		}
		return mapText(r)
	}
	l := []impl.Rule{}
	for range r.Intn(impl.MaxRules + 1) {
		l = append(l, impl.Rule{Prefix: text(), To: text()})
	}
	slices.SortFunc(l, func(a, b impl.Rule) int { return strings.Compare(a.Prefix, b.Prefix) })
	l = slices.CompactFunc(l, func(a, b impl.Rule) bool { return a.Prefix == b.Prefix })
	if len(l) > 0 && l[0].Prefix == "" {
		l = l[1:]
	}
	if len(l) > 0 && r.Intn(10) == 0 {
		x := &l[r.Intn(len(l))]
		switch r.Intn(5) {
		case 0:
			x.Prefix = ""
		case 1:
			x.To += []string{"\"", "\\", "\x1f", "\x7f"}[r.Intn(4)]
		case 2:
			x.Prefix += "\""
		case 3:
			x.To = letters(impl.MaxStr + 1)
		case 4:
			l = append(l, *x)
		}
	}
	return l
}

func TestMapSpecOfManyRules(t *testing.T) {
	r := rand.New(rand.NewSource(14))
	mapped, stayed, wrong, refused := 0, 0, 0, 0
	for range 60000 {
		l := manyRules(r)
		right := plainRulesOk(l)
		if impl.RulesOk(l) != right {
			t.Fatalf("RulesOk(%q) is %v", l, !right)
		}
		spec := mapText(r)
		if len(l) > 0 && r.Intn(2) == 0 {
			spec = l[r.Intn(len(l))].Prefix + mapText(r)
		}
		got, want := impl.MapSpec(l, spec), plainMapSpec(l, spec)
		if got != want {
			t.Fatalf("MapSpec(%q, %q) = %q, not %q", l, spec, got, want)
		}
		isFor := func(x impl.Rule) bool {
			return x.Prefix == spec || strings.HasPrefix(spec, x.Prefix) && strings.HasSuffix(x.Prefix, "/")
		}
		switch {
		case !right:
			wrong++
		case got != spec:
			mapped++
		case slices.ContainsFunc(l, isFor):
			refused++
		default:
			stayed++
		}
	}
	if mapped < 1000 || stayed < 1000 || wrong < 1000 || refused < 500 {
		t.Errorf("%d were mapped, %d stayed, %d rules were wrong, %d would be too long: that tells too little", mapped, stayed, wrong, refused)
	}
}

// moreSpecs gives the strings of a module other texts, alike ones alike.
func moreSpecs(r *rand.Rand, m impl.Mod) impl.Mod {
	fresh := map[string]string{}
	of := func(s string) string {
		if _, known := fresh[s]; !known {
			fresh[s] = mapText(r)
		}
		return fresh[s]
	}
	m = cloneMod(m)
	for i, s := range m.Requests {
		m.Requests[i] = of(s)
	}
	for i, imp := range m.Imps {
		m.Imps[i].Spec = of(imp.Spec)
	}
	for i, e := range m.Exps {
		if e.Kind != impl.EpLocal {
			m.Exps[i].Spec = of(e.Spec)
		}
	}
	return m
}

func TestMapModOfManyModules(t *testing.T) {
	k := newMaker(false)
	alike, changed, same, wrong := 0, 0, 0, 0
	for i := range 20000 {
		m, _ := k.make()
		if i%2 == 0 {
			m = moreSpecs(k.Rand, m)
		}
		if i%5 == 0 {
			k.meddle(&m)
		}
		l := manyRules(k.Rand, m.Requests...)
		if wantMapHeld(t, l, m) {
			alike++
		}
		wantMapHeld(t, nil, m)
		got, ok := impl.MapMod(l, m)
		switch {
		case !ok:
			wrong++
		case isSameMod(got, m):
			same++
		default:
			changed++
		}
	}
	if alike < 300 || changed < 1000 || same < 1000 || wrong < 1000 {
		t.Errorf("%d have requests that became alike, %d were changed, %d stayed, %d were wrong: that tells too little", alike, changed, same, wrong)
	}
}

// All ways to lead four requests to four others, with what names them.
func TestMapModOfAllWaysToBecomeAlike(t *testing.T) {
	names := []string{"a", "b", "c", "d"}
	text := `import { v } from "b"; export * from "d"; import "a"; import * as n from "c"; export { w } from "a"; import d from "d"; export { x, y } from "b"; print(v);`
	m := mustParse(t, text, false)
	alike := 0
	for way := range 256 {
		l := []impl.Rule{}
		for i, name := range names {
			l = append(l, impl.Rule{Prefix: name, To: names[way>>(2*i)&3]})
		}
		if wantMapHeld(t, l, m) {
			alike++
		}
		wantMapped(t, l, text, plainMapText(l, text))
	}
	// The ways that lead no two to one are those to order four.
	if alike != 256-24 {
		t.Errorf("in %d ways requests became alike", alike)
	}
}

func TestMapModOfTexts(t *testing.T) {
	for _, s := range someTexts(false) {
		m, bad := impl.Parse(s, false)
		if bad != -1 {
			continue
		}
		for _, l := range [][]impl.Rule{nil, mapRules("./x", "./y", "./y", "./x"), mapRules("./", "", "x", "w"), mapRules("x", "./x", "y", "./x"), mapRules("./x", "\""), mapRules("y", "", "x", "")} {
			wantMapHeld(t, l, m)
			wantMapped(t, l, s, plainMapText(l, s))
		}
	}
}

// ownRules are rules whose texts stand in memory of their own.
func ownRules(l []impl.Rule) []impl.Rule {
	own := []impl.Rule{}
	for _, r := range l {
		own = append(own, impl.Rule{Prefix: strings.Clone(r.Prefix), To: strings.Clone(r.To)})
	}
	return own
}

func textsOfRules(l []impl.Rule) []string {
	texts := []string{}
	for _, r := range l {
		texts = append(texts, r.Prefix, r.To)
	}
	return texts
}

func memoryRules() [][]impl.Rule {
	return [][]impl.Rule{nil, ownRules(mapRules("./bb", "./cc", "aa", "bb")), ownRules(mapRules("../", "", "./", "./dd/", "aa", "")), ownRules(mapRules("./aa", letters(impl.MaxStr), "./bb", "./aa")), ownRules(mapRules("b", "x", "a", "y"))}
}

func TestMapSpecIsNewMemory(t *testing.T) {
	for _, l := range memoryRules() {
		for _, s := range []string{"./bb", "aa", "../bb", "./bb/cc", "./aa", "zz", "./", "../"} {
			spec := strings.Clone(s)
			first, second := impl.MapSpec(l, spec), impl.MapSpec(l, spec)
			if first != second {
				t.Errorf("MapSpec(%q, %q) is %q and %q", l, spec, first, second)
			}
			wantOwnText(t, first, append(textsOfRules(l), spec, second)...)
		}
	}
}

func TestMappedModulesAreNewMemory(t *testing.T) {
	text := `import { aa as bb } from "./bb"; import * as nn from "../bb"; export { cc } from "./aa"; export * from "aa"; import "./bb/cc"; export { bb as dd }; export let ee = nn.ff() + gg; hh = ii(); export default 1; export { jj } from "./bb";`
	for _, l := range memoryRules() {
		m := mustParse(t, text, false)
		first, ok := impl.MapMod(l, m)
		second, _ := impl.MapMod(l, m)
		if !ok || !isSameMod(first, second) {
			t.Fatalf("MapMod(%q) is %+v and %+v, %v", l, first, second, ok)
		}
		lists := textsOfGraph(impl.Graph{Mods: []impl.Mod{first}})
		others := slices.Concat(textsOfGraph(impl.Graph{Mods: []impl.Mod{m, second}}), [][]string{textsOfRules(l)})
		for i, list := range lists {
			for _, other := range slices.Concat(others, lists[:i]) {
				for _, s := range list {
					wantOwnText(t, s, other...)
				}
			}
		}
		spans := spansOf(impl.Graph{Mods: []impl.Mod{first, second, m}})
		for i, a := range spans {
			for _, b := range spans[:i] {
				if a.from < b.end && b.from < a.end && a.from < a.end && b.from < b.end {
					t.Errorf("two lists share memory: %v, %v", a, b)
				}
			}
		}
		before := cloneMod(second)
		clear(first.Requests)
		clear(first.Imps)
		clear(first.Exps)
		clear(first.Stmts)
		clear(first.Exprs)
		if again, _ := impl.MapMod(l, m); !isSameMod(second, before) || !isSameMod(again, before) {
			t.Errorf("two answers share memory: %+v", second)
		}
	}
}

// Rules and modules have room behind them: neither they nor that is written into.
func TestMapsDoNotWriteIntoArguments(t *testing.T) {
	k := newMaker(false)
	for i := range 2000 {
		m, _ := k.make()
		m = moreSpecs(k.Rand, m)
		if i%4 == 0 {
			k.meddle(&m)
		}
		rules := append(manyRules(k.Rand), impl.Rule{Prefix: "spare", To: "spare"})
		before := slices.Clone(rules)
		l := rules[:len(rules)-1]
		spare := withSpare(m)
		impl.RulesOk(l)
		impl.MapSpec(l, mapText(k.Rand))
		impl.MapMod(l, spare)
		impl.MapMod(nil, spare)
		wantSpare(t, spare, m)
		if !slices.Equal(rules, before) {
			t.Fatalf("the rules were %q and are %q", before, rules)
		}
	}
}
