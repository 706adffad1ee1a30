package tests

import (
	"maps"
	"math/rand"
	"regexp"
	"slices"
	"strings"
	"testing"

	"loop.example/g00777/impl"
)

// standing is a name that stands somewhere in a program, and where: a list with a kind.
type standing struct {
	list string
	kind int
	name string
}

// standingsOf are all names of a program that are in question.
func standingsOf(m impl.Mod) []standing {
	all := []standing{}
	for _, x := range m.Exprs {
		all = append(all, standing{"expr", x.Kind, x.Name})
	}
	for _, s := range m.Stmts {
		all = append(all, standing{"stmt", s.Kind, s.Name})
	}
	for _, e := range m.Exps {
		all = append(all, standing{"exp", e.Kind, e.Local})
	}
	for _, i := range m.Imps {
		all = append(all, standing{"imp", 0, i.Local})
	}
	return all
}

// namesAt are the names that stand at one of the places, sorted, each once.
func namesAt(m impl.Mod, places ...standing) []string {
	names := map[string]int{}
	for _, s := range standingsOf(m) {
		for _, p := range places {
			if s.list == p.list && s.kind == p.kind {
				names[s.name]++
			}
		}
	}
	return slices.Sorted(maps.Keys(names))
}

// but are the names of a that are not in b.
func but(a, b []string) []string {
	return slices.DeleteFunc(slices.Clone(a), func(s string) bool { return slices.Contains(b, s) })
}

// plainlyNamed tells what is used, unused and free, of any Mod.
func plainlyNamed(m impl.Mod) (uses, unused, free []string) {
	values := []standing{{list: "expr", kind: 2}, {list: "expr", kind: 3}, {list: "stmt", kind: 3}}
	uses = namesAt(m, append(values, standing{list: "expr", kind: 4}, standing{list: "expr", kind: 5}, standing{list: "exp", kind: 1})...)
	imps := namesAt(m, standing{list: "imp"})
	declared := slices.Concat(imps, namesAt(m, standing{list: "stmt", kind: 2}), but(namesAt(m, standing{list: "stmt", kind: 1}), []string{"*default"}))
	return uses, but(imps, uses), but(namesAt(m, values...), declared)
}

// wantNamesHeld asks for what holds of all names of any Mod, and of it trimmed.
func wantNamesHeld(t *testing.T, m impl.Mod) {
	t.Helper()
	uses, unused, free := impl.Uses(m), impl.Unused(m), impl.FreeNames(m)
	plainUses, plainUnused, plainFree := plainlyNamed(m)
	if !slices.Equal(uses, plainUses) || !slices.Equal(unused, plainUnused) || !slices.Equal(free, plainFree) {
		t.Fatalf("of %+v Uses is %q, not %q, Unused is %q, not %q, FreeNames is %q, not %q", m, uses, plainUses, unused, plainUnused, free, plainFree)
	}
	for _, l := range [][]string{uses, unused, free} {
		for i := 1; i < len(l); i++ {
			if l[i-1] >= l[i] {
				t.Fatalf("of %+v the names %q do not rise", m, l)
			}
		}
	}
	for _, i := range m.Imps {
		if slices.Contains(uses, i.Local) == slices.Contains(unused, i.Local) || slices.Contains(free, i.Local) {
			t.Fatalf("of %+v Uses is %q, Unused %q, FreeNames %q: what of %v?", m, uses, unused, free, i)
		}
	}
	for _, s := range m.Stmts {
		isDeclared := s.Kind == impl.StFn || s.Kind == impl.StLet && s.Name != impl.DefaultName
		if isDeclared && slices.Contains(free, s.Name) {
			t.Fatalf("of %+v FreeNames is %q, but %q is declared", m, free, s.Name)
		}
	}
	wantTrimHeld(t, m, uses, unused, free)
	if impl.ModOk(m, false) || impl.ModOk(m, true) {
		wantNamesOfText(t, m, uses, unused, free)
	}
	if impl.Early(m, false) == impl.EaOk {
		wantNamesByEarly(t, m, uses, free)
	}
}

func wantTrimHeld(t *testing.T, m impl.Mod, uses, unused, free []string) {
	t.Helper()
	got, want := impl.Trim(m), cloneMod(m)
	want.Imps = nil
	for _, i := range m.Imps {
		if !slices.Contains(unused, i.Local) {
			want.Imps = append(want.Imps, i)
		}
	}
	if !isSameMod(got, want) {
		t.Fatalf("Trim of %+v is %+v, not %+v", m, got, want)
	}
	if left := impl.Unused(got); len(left) != 0 || !isSameMod(impl.Trim(got), got) {
		t.Fatalf("Trim of %+v is %+v, of which %q is unused", m, got, left)
	}
	if !slices.Equal(impl.Uses(got), uses) || !slices.Equal(impl.FreeNames(got), free) {
		t.Fatalf("Trim of %+v has other names: %q and %q, not %q and %q", m, impl.Uses(got), impl.FreeNames(got), uses, free)
	}
	if impl.ModOk(m, false) && !impl.ModOk(got, false) {
		t.Fatalf("Trim of %+v is no program: %+v", m, got)
	}
	if code := impl.Early(got, false); impl.Early(m, false) == impl.EaOk && code != impl.EaOk {
		t.Fatalf("Trim of %+v has the early error %d: %+v", m, code, got)
	}
}

// lineForm is a line that Print writes, and what stands in its groups: l a local, d what is declared, u what is used, v what is a value, e an expression.
type lineForm struct {
	form   *regexp.Regexp
	groups string
}

const nameForm = `[A-Za-z_$][A-Za-z0-9_$]*`

var (
	nameForms  = regexp.MustCompile(nameForm)
	plainForms = []lineForm{
		formOf(`^import "[^"]*";$`, ``), formOf(`^import \{ (?:N as )?(N) \} from "[^"]*";$`, `l`), formOf(`^import \* as (N) from "[^"]*";$`, `l`), formOf(`^import (N) from "[^"]*";$`, `l`),
		formOf(`^export \{ (N)(?: as N)? \};$`, `u`), formOf(`^export \{ N(?: as N)? \} from "[^"]*";$`, ``), formOf(`^export \* from "[^"]*";$`, ``), formOf(`^export default (.*);$`, `e`),
		formOf(`^let (N) = (.*);$`, `de`), formOf(`^function (N)\(\) \{ return (.*); \}$`, `de`), formOf(`^(N) = (.*);$`, `ve`), formOf(`^print\((.*)\);$`, `e`), formOf(`^throw (.*);$`, `e`), formOf(`^fail ([^=].*);$`, `e`),
	}
)

// formOf has a name in the place of each N.
func formOf(form, groups string) lineForm {
	return lineForm{regexp.MustCompile(strings.ReplaceAll(form, "N", nameForm)), groups}
}

// textNames tells the names of a text that Print wrote, by what stands where.
func textNames(t *testing.T, text string) map[byte][]string {
	t.Helper()
	names := map[byte][]string{}
	for _, line := range strings.Split(strings.TrimSuffix(text, "\n"), "\n") {
		known := 0
		for _, f := range plainForms {
			found := f.form.FindStringSubmatch(line)
			if found == nil {
				continue
			}
			known++
			for i := range len(f.groups) {
				names[f.groups[i]] = append(names[f.groups[i]], found[i+1])
			}
		}
		if known != 1 && line != "" {
			t.Fatalf("%q is a line of %d forms", line, known)
		}
		if strings.HasPrefix(line, "export default ") {
			names['u'] = append(names['u'], "*default")
		}
	}
	for _, e := range names['e'] {
		for _, at := range nameForms.FindAllStringIndex(e, -1) {
			name := e[at[0]:at[1]]
			switch {
			case strings.HasSuffix(e[:at[0]], "."):
			case strings.HasPrefix(e[at[1]:], "."):
				names['u'] = append(names['u'], name)
			default:
				names['v'] = append(names['v'], name)
			}
		}
	}
	return names
}

func sortedOnce(l []string) []string {
	l = slices.Clone(l)
	slices.Sort(l)
	return slices.Compact(l)
}

// wantNamesOfText holds the names of a program against its text, and what is trimmed against the text without the lines of what is unused.
func wantNamesOfText(t *testing.T, m impl.Mod, uses, unused, free []string) {
	t.Helper()
	script := !impl.ModOk(m, false)
	text := impl.Print(m, script)
	names := textNames(t, text)
	wantUses := sortedOnce(slices.Concat(names['u'], names['v']))
	wantUnused := but(sortedOnce(names['l']), wantUses)
	wantFree := but(sortedOnce(names['v']), slices.Concat(names['l'], names['d']))
	if !slices.Equal(uses, wantUses) || !slices.Equal(unused, wantUnused) || !slices.Equal(free, wantFree) {
		t.Fatalf("of %q Uses is %q, not %q, Unused is %q, not %q, FreeNames is %q, not %q", text, uses, wantUses, unused, wantUnused, free, wantFree)
	}
	left := ""
	for _, line := range strings.SplitAfter(text, "\n") {
		local := textNames(t, strings.TrimSuffix(line, "\n"))['l']
		if len(local) == 0 || !slices.Contains(unused, local[0]) {
			left += line
		}
	}
	if got := impl.Print(impl.Trim(m), script); got != left {
		t.Fatalf("Trim of %q is %q, not %q", text, got, left)
	}
}

// wantNamesByEarly asks, of a program without early errors, which ones it would have if a name were that of a space, or not.
func wantNamesByEarly(t *testing.T, m impl.Mod, uses, free []string) {
	t.Helper()
	for _, name := range append(slices.Clone(uses), "a", "b", "n", "zz") {
		with := cloneMod(m)
		with.Imps = append(with.Imps, impl.Imp{Spec: "x", From: "*", Local: name})
		// What is exported by default alone is no value that somebody reads.
		if code := impl.Early(with, false); name != impl.DefaultName && slices.Contains(free, name) != (code == impl.EaSpace) {
			t.Fatalf("of %+v FreeNames is %q, but with a space %q it has the early error %d", m, free, name, code)
		}
	}
	for i, imp := range m.Imps {
		with, want := cloneMod(m), impl.EaSpace
		if imp.From == "*" {
			with.Imps, want = slices.Delete(with.Imps, i, i+1), impl.EaMember
		} else {
			with.Imps[i].From = "*"
		}
		if code := impl.Early(with, false); slices.Contains(uses, imp.Local) != (code == want) {
			t.Fatalf("of %+v Uses is %q, but with another %q it has the early error %d", m, uses, imp.Local, code)
		}
	}
}

// wantTrimmedGraph holds TrimAll of a right graph against Trim, and Run of it against that of the graph, with each number of steps up to most.
func wantTrimmedGraph(t *testing.T, g impl.Graph, most int) impl.Graph {
	t.Helper()
	got := impl.TrimAll(g)
	if !slices.Equal(got.Paths, g.Paths) || !slices.Equal(got.Links, g.Links) || len(got.Mods) != len(g.Mods) {
		t.Fatalf("TrimAll of %s is %+v", textOf(g), got)
	}
	for i, m := range g.Mods {
		if !isSameMod(got.Mods[i], impl.Trim(m)) || len(impl.Unused(got.Mods[i])) != 0 {
			t.Fatalf("module %d of TrimAll of %s is %+v", i, textOf(g), got.Mods[i])
		}
	}
	if !impl.GraphOk(got) || !slices.Equal(impl.Order(got), impl.Order(g)) || !isSameGraph(impl.TrimAll(got), got) {
		t.Fatalf("TrimAll of %s is not right, or runs otherwise, or can be trimmed again: %s", textOf(g), textOf(got))
	}
	if impl.LinkFault(g) != (impl.Fault{}) {
		return got
	}
	if f := impl.LinkFault(got); f != (impl.Fault{}) {
		t.Fatalf("TrimAll of %s does not link: %v", textOf(g), f)
	}
	wantEachFuel(t, "TrimAll of "+textOf(g), func(fuel int) impl.Trace {
		trace := impl.Run(got, fuel)
		if before := impl.Run(g, fuel); !isSameTrace(trace, before) {
			t.Fatalf("with %d steps Run of %s is %v, trimmed it is %v", fuel, textOf(g), before, trace)
		}
		return trace
	}, plainCourse(g, false), most)
	a, f := impl.Bundle(g)
	b, trimmedFault := impl.Bundle(got)
	if f != trimmedFault || !isSameMod(a, b) {
		t.Fatalf("Bundle of %s tells %v, trimmed %v, or is another script", textOf(g), f, trimmedFault)
	}
	return got
}

// wantSameNames asks that what others see of each module is the same.
func wantSameNames(t *testing.T, g, trimmed impl.Graph) {
	t.Helper()
	for m := range g.Mods {
		names := impl.Exported(g, m)
		if got := impl.Exported(trimmed, m); !slices.Equal(got, names) {
			t.Fatalf("of %s module %d exports %q, trimmed %q", textOf(g), m, names, got)
		}
		for _, name := range append(names, "x", "none") {
			if a, b := impl.ResolveExport(g, m, name), impl.ResolveExport(trimmed, m, name); a != b {
				t.Fatalf("of %s %q of module %d is %v, trimmed %v", textOf(g), name, m, a, b)
			}
		}
	}
}

// wantOfTexts asks for what holds of the programs of many texts.
func wantOfTexts(t *testing.T, wantHeld func(t *testing.T, m impl.Mod)) {
	t.Helper()
	for _, script := range inBoth {
		for _, s := range someTexts(script) {
			if m, bad := impl.Parse(s, script); bad == -1 {
				wantHeld(t, m)
			}
		}
	}
	for _, s := range earlyTexts() {
		wantHeld(t, mustParse(t, s, false))
	}
}

func TestNamesOfTexts(t *testing.T) {
	wantOfTexts(t, wantNamesHeld)
}

// All programs of one import, one that uses a name and one that declares a name, out of few of each, in each order.
func TestNamesOfAllSmallPrograms(t *testing.T) {
	imports := []string{``, `import { a } from "x";`, `import { a as b } from "x";`, `import b from "x";`, `import * as a from "x";`, `import { a, b } from "x";`, `import * as n from "x"; import { n as a } from "x";`}
	uses := []string{``, `print(a);`, `print(b());`, `print(n.a);`, `print(a.n());`, `a = b;`, `b = n.b();`, `throw n;`, `export { a };`, `export { b as a };`, `export { a } from "x";`, `export default a;`, `export * from "x";`, `print(a + b * n.n);`}
	declared := []string{``, `let a = 1;`, `let b = a;`, `function a() { return b; }`, `function n() { return n.a; }`, `export let b = b();`, `export function a() { return a(); }`, `export default 1;`}
	for _, i := range imports {
		for _, u := range uses {
			for _, d := range declared {
				for _, v := range uses {
					m := mustParse(t, i+u+d+v, false)
					wantNamesHeld(t, m)
					// Where the items stand is nothing to the names.
					turned := mustParse(t, v+d+u+i, false)
					if !slices.Equal(impl.Uses(m), impl.Uses(turned)) || !slices.Equal(impl.Unused(m), impl.Unused(turned)) || !slices.Equal(impl.FreeNames(m), impl.FreeNames(turned)) {
						t.Fatalf("%q has other names when it is turned", i+u+d+v)
					}
				}
			}
		}
	}
}

func TestNamesOfManyPrograms(t *testing.T) {
	for _, script := range inBoth {
		k := newMaker(script)
		unused, free, uses, wrong := 0, 0, 0, 0
		for i := range 8000 {
			m, _ := k.make()
			for range i % 4 {
				k.meddle(&m)
			}
			wantNamesHeld(t, m)
			unused, free, uses = unused+len(impl.Unused(m)), free+len(impl.FreeNames(m)), uses+len(impl.Uses(m))
			if !impl.ModOk(m, script) {
				wrong++
			}
		}
		if uses < 4000 || free < 1500 || !script && unused < 2000 || wrong < 1500 {
			t.Errorf("%d names are used, %d unused, %d free, %d programs are wrong: that tells too little", uses, unused, free, wrong)
		}
	}
}

func TestTrimAllOfManyGraphs(t *testing.T) {
	k := &runMaker{Rand: rand.New(rand.NewSource(21))}
	ends, cut, left := map[int]int{}, 0, 0
	for i := range 600 {
		g := mustLoad(t, k.files(1+i%impl.MaxFiles), "/a")
		// Up to the end it takes long: a tenth of them, by turns of each size.
		most := 4
		if i%11 == 0 {
			most = 250
		}
		got := wantTrimmedGraph(t, g, most)
		if most > 4 {
			wantSameNames(t, g, got)
		}
		for m := range g.Mods {
			cut += len(g.Mods[m].Imps) - len(got.Mods[m].Imps)
			left += len(got.Mods[m].Imps)
		}
		if impl.LinkFault(g) != (impl.Fault{}) {
			ends[-1]++
		} else {
			ends[impl.Run(got, impl.MaxFuel).End]++
		}
	}
	wantEnds(t, ends, 8, -1, impl.TrDone, impl.TrThrow, impl.TrRef, impl.TrType, impl.TrRange)
	if cut < 500 || left < 500 {
		t.Errorf("%d Imps were cut, %d are left: that tells too little", cut, left)
	}
}

func TestTrimAllOfManyFiles(t *testing.T) {
	k, r := newMaker(false), rand.New(rand.NewSource(22))
	right, wrong := 0, 0
	for i := range 2000 {
		files := someFiles(r, false)
		if i%2 == 0 {
			files = exportFiles(r, 1+i%impl.MaxFiles)
		}
		g := cloneGraph(mustLoad(t, files, files[0].Path))
		for range i % 3 {
			meddleGraph(k, &g)
		}
		if plainGraphOk(g) {
			wantTrimmedGraph(t, g, 8)
			right++
		} else {
			wantNoGraph(t, "meddled", g)
			wrong++
		}
	}
	if right < 500 || wrong < 500 {
		t.Errorf("%d are right, %d are wrong: that tells too little", right, wrong)
	}
}

// wantApart asks that the lists of a graph, and the texts in them, share memory with none of the others, nor with each other.
func wantApart(t *testing.T, g impl.Graph, others ...impl.Graph) {
	t.Helper()
	lists, ahead := textsOfGraph(g), [][]string{}
	spans, spansAhead := spansOf(g), []span{}
	for _, other := range others {
		ahead, spansAhead = append(ahead, textsOfGraph(other)...), append(spansAhead, spansOf(other)...)
	}
	for i, list := range lists {
		for _, other := range slices.Concat(ahead, lists[:i]) {
			for _, s := range list {
				wantOwnText(t, s, other...)
			}
		}
	}
	for i, a := range spans {
		for _, b := range slices.Concat(spansAhead, spans[:i]) {
			if a.from < b.end && b.from < a.end && a.from < a.end && b.from < b.end {
				t.Errorf("two lists share memory: %v, %v", a, b)
			}
		}
	}
}

func TestTrimmedGraphsAreNewMemory(t *testing.T) {
	files := memoryFiles()
	files[0].Text += `import { xx } from "./aa"; print(bb); export default bb; export let zz = 1; export { bb as yy };`
	g := mustLoad(t, files, "/aa")
	first, second := impl.TrimAll(g), impl.TrimAll(g)
	if len(first.Mods) != len(g.Mods) || len(first.Mods[0].Imps) != 2 || !isSameGraph(first, second) {
		t.Fatalf("TrimAll is %+v and %+v", first, second)
	}
	wantApart(t, first, g, second)
	m := g.Mods[0]
	trimmed, again := impl.Trim(m), impl.Trim(m)
	if !isSameMod(trimmed, first.Mods[0]) {
		t.Fatalf("Trim is %+v", trimmed)
	}
	wantApart(t, impl.Graph{Mods: []impl.Mod{trimmed}}, impl.Graph{Mods: []impl.Mod{m, again}})
	// Of a Mod whose rows share their texts, the answer's do not.
	odd := impl.Mod{Requests: []string{m.Imps[0].Local}, Imps: m.Imps, Exps: []impl.Exp{{Kind: impl.EpLocal, Name: m.Imps[0].Local, Local: m.Imps[0].Local, Spec: m.Imps[0].Local}}, Stmts: []impl.Stmt{{Name: m.Imps[0].Local}}, Exprs: []impl.Expr{{Name: m.Imps[0].Local, Field: m.Imps[0].Local}}}
	wantApart(t, impl.Graph{Mods: []impl.Mod{impl.Trim(odd)}}, impl.Graph{Mods: []impl.Mod{odd}})
	// What is written into an answer is seen in no other one.
	before := cloneGraph(second)
	for i := range first.Mods {
		clear(first.Mods[i].Requests)
		clear(first.Mods[i].Imps[:cap(first.Mods[i].Imps)])
		clear(first.Mods[i].Exps)
		clear(first.Mods[i].Stmts)
		clear(first.Mods[i].Exprs)
	}
	clear(first.Paths)
	clear(first.Mods)
	clear(first.Links)
	if !isSameGraph(second, before) || !isSameGraph(impl.TrimAll(g), before) {
		t.Error("an answer is kept")
	}
}

func TestNamesAreNewMemory(t *testing.T) {
	text := `import { aa, bb as cc, uu } from "./xx"; import * as nn from "./yy"; import * as mm from "./yy"; export { aa }; let dd = nn.ee + ff(); dd = gg; hh = nn.ii(); export default jj;`
	m := mustParse(t, text, false)
	args := slices.Concat(textsOfLists(m)...)
	for what, names := range map[string]func(m impl.Mod) []string{"Uses": impl.Uses, "Unused": impl.Unused, "FreeNames": impl.FreeNames} {
		first, second := names(m), names(m)
		if len(first) < 2 || !slices.Equal(first, second) || &first[0] == &second[0] {
			t.Fatalf("%s is %q and %q, or shares memory", what, first, second)
		}
		for _, name := range first {
			wantOwnText(t, name, append(args, second...)...)
		}
		before := slices.Clone(second)
		clear(first[:cap(first)])
		if !slices.Equal(second, before) || !slices.Equal(names(m), before) {
			t.Errorf("%s: an answer is kept", what)
		}
	}
}

func TestNamesDoNotWriteIntoPrograms(t *testing.T) {
	k, r := newMaker(false), &runMaker{Rand: rand.New(rand.NewSource(23))}
	for i := range 1500 {
		m, _ := k.make()
		for range i % 3 {
			k.meddle(&m)
		}
		spare := withSpare(m)
		impl.Uses(spare)
		impl.Unused(spare)
		impl.FreeNames(spare)
		impl.Trim(spare)
		wantSpare(t, spare, m)
	}
	for i := range 500 {
		g := cloneGraph(mustLoad(t, r.files(1+i%impl.MaxFiles), "/a"))
		if i%3 == 0 {
			meddleGraph(k, &g)
		}
		spare := graphWithSpare(g)
		impl.TrimAll(spare)
		wantGraphSpare(t, spare, g)
	}
}
