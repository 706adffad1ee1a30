package tests

import (
	"math"
	"math/rand"
	"slices"
	"strconv"
	"strings"
	"testing"

	"loop.example/g00777/impl"
)

// textStanding is a name in the tokens of a text, and whether it is declared there.
type textStanding struct {
	at         int
	name       string
	isDeclared bool
}

// standingsIn are all names in the tokens of a script that are no words of it. What is declared stands behind let or function.
func standingsIn(tokens []impl.Token) []textStanding {
	words := strings.Fields("import export default let function return print throw fail undef")
	all := []textStanding{}
	for i, k := range tokens {
		if k.Kind == impl.TkName && !slices.Contains(words, k.Text) {
			all = append(all, textStanding{i, k.Text, i > 0 && (tokens[i-1].Text == "let" || tokens[i-1].Text == "function")})
		}
	}
	return all
}

// plainlyRenamed is the script with other names in its text; rename tells them of those it declares, in their order, and of those that are free.
func plainlyRenamed(t *testing.T, m impl.Mod, rename func(declared, free []string) []string) impl.Mod {
	t.Helper()
	tokens, _ := impl.Lex(impl.Print(m, true), true)
	declared, free := []string{}, []string{}
	for _, s := range standingsIn(tokens) {
		if s.isDeclared {
			declared = append(declared, s.name)
		}
	}
	for _, s := range standingsIn(tokens) {
		if !slices.Contains(declared, s.name) {
			free = append(free, s.name)
		}
	}
	names := rename(declared, free)
	for _, s := range standingsIn(tokens) {
		if i := slices.Index(declared, s.name); i >= 0 {
			tokens[s.at].Text = names[i]
		}
	}
	text := ""
	for _, k := range tokens {
		text += tokenText(k) + " "
	}
	return mustParse(t, text, true)
}

// plainlyShort are the names that are short, as many as are declared.
func plainlyShort(declared, free []string) []string {
	names := []string{}
	for n := 0; len(names) < len(declared); n++ {
		if s := plainShortName(n); !slices.Contains(free, s) {
			names = append(names, s)
		}
	}
	return names
}

// wantShortHeld asks for what holds of Shorten of any Mod.
func wantShortHeld(t *testing.T, m impl.Mod) {
	t.Helper()
	got := impl.Shorten(m)
	if !impl.ModOk(m, true) || impl.Early(m, true) != impl.EaOk {
		if !isSameMod(got, m) {
			t.Fatalf("%+v is no right script, and Shorten of it is %+v", m, got)
		}
		return
	}
	if want := plainlyRenamed(t, m, plainlyShort); !isSameMod(got, want) {
		t.Fatalf("Shorten of %s is %s, not %s", dump(m), dump(got), dump(want))
	}
	if code := impl.Early(got, true); !impl.ModOk(got, true) || code != impl.EaOk || anyTwice(declaredIn(got)) {
		t.Fatalf("Shorten of %s is no script, or has the early error %d: %s", dump(m), code, dump(got))
	}
	free := impl.FreeNames(m)
	if now := impl.FreeNames(got); !slices.Equal(now, free) {
		t.Fatalf("of %s %q is free, and of Shorten of it %q", dump(m), free, now)
	}
	if len(impl.Uses(got)) != len(impl.Uses(m)) || len(declaredIn(got)) != len(declaredIn(m)) || impl.Size(got) != impl.Size(m) {
		t.Fatalf("Shorten of %s has more of a thing, or less: %s", dump(m), dump(got))
	}
	wantNamesInOrder(t, m, got, free)
	if again := impl.Shorten(got); !isSameMod(again, got) {
		t.Fatalf("Shorten of %s is %s, and of that %s", dump(m), dump(got), dump(again))
	}
	// How long the names were is nothing to the short ones.
	other := plainlyRenamed(t, m, func(declared, free []string) []string {
		names := []string{}
		for i := range declared {
			names = append(names, "_other"+strconv.Itoa(len(declared)-i))
		}
		return names
	})
	if again := impl.Shorten(other); !isSameMod(again, got) {
		t.Fatalf("Shorten of %s is %s, but of %s it is %s", dump(m), dump(got), dump(other), dump(again))
	}
}

// wantNamesInOrder asks that what a shortened script declares are short names in their order, of which only free ones lack.
func wantNamesInOrder(t *testing.T, m, short impl.Mod, free []string) {
	t.Helper()
	n := 0
	for i, s := range short.Stmts {
		if before := m.Stmts[i]; s.Kind != before.Kind || s.Expr != before.Expr {
			t.Fatalf("Shorten of %s has another statement %d: %s", dump(m), i, dump(short))
		}
		if s.Kind != impl.StLet && s.Kind != impl.StFn {
			continue
		}
		for ; s.Name != impl.ShortName(n); n++ {
			if !slices.Contains(free, impl.ShortName(n)) {
				t.Fatalf("Shorten of %s leaves out %q: %s", dump(m), impl.ShortName(n), dump(short))
			}
		}
		n++
	}
}

// wantShortRun holds RunScript of a script with short names against that of the script, with each number of steps up to its end, or to most.
func wantShortRun(t *testing.T, m impl.Mod, most int) impl.Trace {
	t.Helper()
	short := impl.Shorten(m)
	c := plainCourse(scriptGraph(m), true)
	wantEachFuel(t, "Shorten of "+dump(m), func(fuel int) impl.Trace {
		trace := impl.RunScript(short, fuel)
		if before := impl.RunScript(m, fuel); !isSameTrace(trace, before) {
			t.Fatalf("with %d steps %s tells %v, and with short names %s tells %v", fuel, dump(m), before, dump(short), trace)
		}
		return trace
	}, c, most)
	return c.with(impl.MaxFuel)
}

func TestShortenOfTexts(t *testing.T) {
	wantOfTexts(t, wantShortHeld)
}

// All scripts that declare three of five names, in each order, where each choice of five other ones is free.
func TestShortenOfAllOrdersOfNames(t *testing.T) {
	names, others := []string{"$a", "$b", "$c", "$e", "one"}, []string{"$a", "$b", "$c", "$d", "$aa"}
	moved, left := 0, 0
	for _, order := range permutations(names) {
		if order[3] > order[4] {
			// That is another one with the same three ahead.
			continue
		}
		for choice := range 1 << len(others) {
			free := ""
			for i, name := range others {
				if choice>>i&1 == 1 {
					free += " + " + name
				}
			}
			text := strings.NewReplacer("x", order[0], "y", order[1], "z", order[2]).Replace(`let x = 3; function y() { return x * 5; } let z = y() + x; x = z; print(x - y()); print(z);`) + `fail 1` + free + `;`
			m := mustParse(t, text, true)
			wantShortHeld(t, m)
			wantShortRun(t, m, 0)
			short := impl.Shorten(m)
			if slices.ContainsFunc(declaredIn(short), func(s string) bool { return slices.Contains(order[:3], s) }) {
				moved++
			}
			if declaredIn(short)[2] != "$c" {
				left++
			}
		}
	}
	if moved < 500 || left < 500 {
		t.Errorf("%d names are moved, %d left out: that tells too little", moved, left)
	}
}

// All scripts of three statements out of few.
func TestShortenOfAllSmallScripts(t *testing.T) {
	statements := []string{
		`let one = 1;`, `let $b = one;`, `let $a = $b;`, `let $c = $a() + 1;`, `function $b() { return $a; }`, `function $c() { return 5; }`, `function one() { return $c(); }`,
		`one = $b;`, `$a = one + 1;`, `$c = undef;`, `print($a);`, `print($b() - one);`, `print($c);`, `throw one;`, `fail $c();`,
	}
	ends := map[int]int{}
	texts := []string{""}
	for range 3 {
		more := []string{}
		for _, text := range texts {
			for _, statement := range statements {
				more = append(more, text+statement)
			}
		}
		texts = more
		for _, text := range texts {
			m := mustParse(t, text, true)
			wantShortHeld(t, m)
			if impl.Early(m, true) == impl.EaOk {
				ends[wantShortRun(t, m, math.MaxInt).End]++
			} else {
				ends[-1]++
			}
		}
	}
	wantEnds(t, ends, 40, -1, impl.TrDone, impl.TrThrow, impl.TrRef, impl.TrType)
}

// shortMaker writes scripts of names that are short, or look like it.
type shortMaker struct {
	*rand.Rand
	// What is declared already: names of numbers and of functions.
	numbers, functions []string
}

func (k *shortMaker) one(of ...string) string {
	return of[k.Intn(len(of))]
}

func (k *shortMaker) expr(more int, names ...string) string {
	switch i := k.Intn(80); {
	case more > 0 && i < 36:
		return "(" + k.expr(more-1, names...) + k.one("+", "-", "-", "*") + k.expr(more-1, names...) + ")"
	case i < 56 && len(k.numbers) > 0:
		return k.one(k.numbers...)
	case i < 68 && len(k.functions) > 0:
		return k.one(k.functions...) + "()"
	case i == 68:
		return k.one("undef", "undef()", "1000000")
	case i == 69:
		return k.one(names...)
	case i == 70:
		return k.one(names...) + "()"
	}
	return k.one("0", "1", "2", "3", "7")
}

func (k *shortMaker) script() string {
	all := []string{"$a", "$b", "$c", "$d", "$e", "$f", "$g", "$h", "$z", "$ba", "$bb", "$aa", "$", "$A", "a", "b", "c", "one", "_x1", "undef$", "a$1"}
	k.Shuffle(len(all), func(i, j int) { all[i], all[j] = all[j], all[i] })
	k.numbers, k.functions = nil, nil
	// What it has is never told, but it is free, or declared later.
	text := ""
	if k.Intn(3) > 0 {
		text = "function never() { return " + strings.Join(all[k.Intn(18):], " + ") + "; }"
	}
	for _, name := range all[:k.Intn(14)] {
		expr := k.expr(2, all...)
		switch k.Intn(3) {
		case 0:
			text += "function " + name + "() { return " + expr + "; }"
			k.functions = append(k.functions, name)
		case 1:
			text += "let " + name + " = " + expr + ";"
			k.numbers = append(k.numbers, name)
		default:
			text += "let " + name + " = " + k.one("1", "2", "5") + ";" + k.one("print("+name+");", name+" = "+expr+";")
			k.numbers = append(k.numbers, name)
		}
	}
	for range 1 + k.Intn(5) {
		switch k.Intn(20) {
		case 0:
			text += "throw " + k.expr(2, all...) + ";"
		case 1:
			text += "fail " + k.expr(2, all...) + ";"
		case 2, 3, 4:
			text += k.one(append(k.numbers, "$i")...) + " = " + k.expr(2, all...) + ";"
		default:
			text += "print(" + k.expr(3, all...) + ");"
		}
	}
	return text
}

func TestShortenOfManyScripts(t *testing.T) {
	k := &shortMaker{Rand: rand.New(rand.NewSource(41))}
	ends, left, swapped, long := map[int]int{}, 0, 0, 0
	for i := range 2000 {
		m := mustParse(t, k.script(), true)
		wantShortHeld(t, m)
		// Up to the end it takes long: a tenth of them.
		most := 4
		if i%10 == 0 {
			most = math.MaxInt
		}
		trace := wantShortRun(t, m, most)
		ends[trace.End]++
		if len(trace.Out) > 3 {
			long++
		}
		before, now := declaredIn(m), declaredIn(impl.Shorten(m))
		if len(now) > 0 && now[len(now)-1] != plainShortName(len(now)-1) {
			left++
		}
		for j, s := range now {
			if at := slices.Index(before, s); at >= 0 && at != j {
				swapped++
			}
		}
	}
	wantEnds(t, ends, 25, impl.TrDone, impl.TrThrow, impl.TrRef, impl.TrType, impl.TrRange)
	if left < 500 || swapped < 1000 || long < 300 {
		t.Errorf("in %d a free name is left out, %d names have one that another one had, %d print much: that tells too little", left, swapped, long)
	}
}

// The scripts that bundles are.
func TestShortenOfManyBundles(t *testing.T) {
	k := &runMaker{Rand: rand.New(rand.NewSource(42))}
	ends := map[int]int{}
	for i := range 300 {
		g := mustLoad(t, k.files(1+i%4), "/a")
		m, f := impl.Bundle(g)
		if f != (impl.Fault{}) || impl.RunScript(m, impl.MaxFuel).End == impl.TrFuel {
			continue
		}
		wantShortHeld(t, m)
		// Folded first or shortened first, it is the same.
		if a, b := impl.Shorten(impl.Fold(m)), impl.Fold(impl.Shorten(m)); !isSameMod(a, b) {
			t.Fatalf("%s is %s when it is folded first, and %s when it is shortened first", dump(m), dump(a), dump(b))
		}
		most := 4
		if i%10 == 0 {
			most = math.MaxInt
		}
		ends[wantShortRun(t, m, most).End]++
		short := impl.Shorten(m)
		for _, fuel := range []int{0, 5, 20, 60, impl.MaxFuel} {
			if got, want := impl.RunScript(short, fuel), impl.Run(g, fuel); !isSameTrace(got, want) {
				t.Fatalf("with %d steps %s tells %v, and its bundle with short names %v", fuel, textOf(g), want, got)
			}
		}
	}
	wantEnds(t, ends, 8, impl.TrDone, impl.TrThrow, impl.TrRef, impl.TrType, impl.TrRange)
}

// shortMeddled are programs of few names and scripts of many, by turns, some of them changed a few times.
func shortMeddled(t *testing.T, script bool, count int) []impl.Mod {
	t.Helper()
	k, s := newMaker(script), &shortMaker{Rand: rand.New(rand.NewSource(43))}
	mods := []impl.Mod{}
	for i := range count {
		m, _ := k.make()
		if i%2 == 0 {
			m = mustParse(t, s.script(), true)
		}
		for range i % 5 {
			k.meddle(&m)
		}
		mods = append(mods, m)
	}
	return mods
}

func TestShortenOfMeddledPrograms(t *testing.T) {
	for _, script := range inBoth {
		right, wrong, early := 0, 0, 0
		for _, m := range shortMeddled(t, script, 4000) {
			wantShortHeld(t, m)
			switch {
			case !impl.ModOk(m, true):
				wrong++
			case impl.Early(m, true) != impl.EaOk:
				early++
			default:
				wantShortRun(t, m, 0)
				right++
			}
		}
		if right < 1000 || wrong < 1000 || early < 50 {
			t.Errorf("%d are right, %d are wrong, %d have early errors: that tells too little", right, wrong, early)
		}
	}
}

func TestShortenDoesNotWriteIntoPrograms(t *testing.T) {
	for _, script := range inBoth {
		for _, m := range shortMeddled(t, script, 1000) {
			spare := withSpare(m)
			impl.Shorten(spare)
			wantSpare(t, spare, m)
		}
	}
}
