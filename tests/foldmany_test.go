package tests

import (
	"math"
	"math/big"
	"math/rand"
	"slices"
	"strconv"
	"strings"
	"testing"

	"loop.example/g00777/impl"
)

// isPlainValue tells whether a value may be n, nil being none.
func isPlainValue(n *big.Int) bool {
	return n != nil && n.CmpAbs(big.NewInt(1000000)) <= 0
}

// plainlyKnown tells what is known of each Expr of any Mod, nil where nothing is.
func plainlyKnown(m impl.Mod) []*big.Int {
	known := make([]*big.Int, len(m.Exprs))
	if impl.Print(m, true) == "" {
		return known
	}
	for i, x := range m.Exprs {
		n := new(big.Int)
		switch {
		case x.Kind == impl.ExNum:
			known[i] = n.SetInt64(int64(x.Num))
			continue
		case x.Kind < impl.ExAdd || x.Kind > impl.ExMul || !isPlainValue(known[x.L]) || !isPlainValue(known[x.R]):
			continue
		case x.Kind == impl.ExAdd:
			n.Add(known[x.L], known[x.R])
		case x.Kind == impl.ExSub:
			n.Sub(known[x.L], known[x.R])
		default:
			n.Mul(known[x.L], known[x.R])
		}
		if isPlainValue(n) {
			known[i] = n
		}
	}
	return known
}

// plainFolder writes expressions from their top, those that stops tells as the number that they are.
type plainFolder struct {
	m     impl.Mod
	stops func(i int) (int, bool)
	exprs []impl.Expr
}

func (p *plainFolder) put(i int) int {
	x := p.m.Exprs[i]
	if n, stops := p.stops(i); stops {
		x = impl.Expr{Kind: impl.ExNum, Num: n}
	} else if x.Kind >= impl.ExAdd {
		x.L = p.put(x.L)
		x.R = p.put(x.R)
	}
	p.exprs = append(p.exprs, x)
	return len(p.exprs) - 1
}

// plainlyFolded wants a script that is right.
func plainlyFolded(m impl.Mod) impl.Mod {
	known := plainlyKnown(m)
	p := &plainFolder{m: m, stops: func(i int) (int, bool) {
		if known[i] == nil || known[i].Sign() < 0 {
			return 0, false
		}
		return int(known[i].Int64()), true
	}}
	folded := cloneMod(m)
	for i := range folded.Stmts {
		folded.Stmts[i].Expr = p.put(m.Stmts[i].Expr)
	}
	folded.Exprs = p.exprs
	return folded
}

// wantFoldHeld asks for what holds of Known, Fold and Size of any Mod, and of a script that it runs.
func wantFoldHeld(t *testing.T, m impl.Mod) {
	t.Helper()
	for i, want := range plainlyKnown(m) {
		n, is := impl.Known(m, i)
		if is != (want != nil) || is && want.Cmp(big.NewInt(int64(n))) != 0 || !is && n != 0 {
			t.Fatalf("Known of %d of %+v is %d, %v, not %v", i, m, n, is, want)
		}
	}
	for _, i := range noNumbers(m) {
		if n, is := impl.Known(m, i); n != 0 || is {
			t.Fatalf("Known of %d of %+v is %d, %v", i, m, n, is)
		}
	}
	if got := impl.Size(m); got != len(m.Exprs)+len(m.Stmts) {
		t.Fatalf("Size of %+v is %d", m, got)
	}
	got, want := impl.Fold(m), m
	if impl.ModOk(m, true) {
		want = plainlyFolded(m)
	}
	if !isSameMod(got, want) {
		t.Fatalf("Fold of %+v is %+v, not %+v", m, got, want)
	}
	if again := impl.Fold(got); !isSameMod(again, got) {
		t.Fatalf("Fold of %+v is %+v, and Fold of that is %+v", m, got, again)
	}
	if impl.ModOk(got, true) != impl.ModOk(m, true) || impl.ModOk(got, false) != impl.ModOk(m, false) || impl.Size(got) > impl.Size(m) {
		t.Fatalf("Fold of %+v is no program any more, or greater: %+v", m, got)
	}
	if impl.ModOk(m, true) {
		wantKnownByRun(t, m)
		wantFoldedThrough(t, m, got)
	}
}

// wantKnownByRun holds what is known of each Expr of a script against what one alone prints of it.
func wantKnownByRun(t *testing.T, m impl.Mod) {
	t.Helper()
	for i := range m.Exprs {
		p := &plainFolder{m: m, stops: func(i int) (int, bool) { return 0, false }}
		alone := impl.Mod{Stmts: []impl.Stmt{{Kind: impl.StPrint, Expr: p.put(i)}}, Exprs: p.exprs}
		trace := impl.RunScript(alone, impl.MaxFuel)
		n, is := impl.Known(m, i)
		// Names have no value there, but undef.
		isNumber := trace.End == impl.TrDone && trace.Out[0] != "undefined"
		if is != isNumber || is && trace.Out[0] != strconv.Itoa(n) {
			t.Fatalf("Known of %q is %d, %v, but it tells %v", impl.Print(alone, true), n, is, trace)
		}
		if hasNumbersAlone := !slices.ContainsFunc(p.exprs, func(x impl.Expr) bool { return x.Name != "" }); hasNumbersAlone && !is && trace.End != impl.TrRange {
			t.Fatalf("Known of %q is false, but it tells %v", impl.Print(alone, true), trace)
		}
	}
}

// wantFoldedThrough asks that in a script that is folded nothing is left to fold.
func wantFoldedThrough(t *testing.T, m, folded impl.Mod) {
	t.Helper()
	for i, x := range folded.Exprs {
		if n, is := impl.Known(folded, i); is && n >= 0 && x.Kind != impl.ExNum {
			t.Fatalf("Fold of %+v is %+v, where %d is %d", m, folded, i, n)
		}
	}
	if len(folded.Stmts) != len(m.Stmts) {
		t.Fatalf("Fold of %+v is %+v, with other statements", m, folded)
	}
	for i, s := range folded.Stmts {
		n, is := impl.Known(m, m.Stmts[i].Expr)
		if now, stays := impl.Known(folded, s.Expr); now != n || stays != is || s.Kind != m.Stmts[i].Kind || s.Name != m.Stmts[i].Name {
			t.Fatalf("Fold of %+v is %+v, where statement %d is another one", m, folded, i)
		}
	}
}

// wantFoldRun holds RunScript of a script that is folded against that of the script, with each number of steps up to its end, or to most.
func wantFoldRun(t *testing.T, m impl.Mod, most int) impl.Trace {
	t.Helper()
	folded := impl.Fold(m)
	all := impl.RunScript(m, impl.MaxFuel)
	if all.End == impl.TrFuel {
		t.Fatalf("%s does not end", dump(m))
	}
	c := plainCourse(scriptGraph(m), true)
	fuels := append(oddFuels(), c.at-1, c.at, c.at+1)
	for fuel := range min(c.at+2, most) {
		fuels = append(fuels, fuel)
	}
	for _, fuel := range fuels {
		want, got := impl.RunScript(m, fuel), impl.RunScript(folded, fuel)
		if want.End != impl.TrFuel && !isSameTrace(got, want) {
			t.Fatalf("with %d steps %s tells %v, and folded %v", fuel, dump(m), want, got)
		}
		// With too few steps it comes as far at the least, and on the same way.
		if want.End == impl.TrFuel && (len(got.Out) < len(want.Out) || !slices.Equal(got.Out, all.Out[:len(got.Out)]) || got.End != impl.TrFuel && !isSameTrace(got, all)) {
			t.Fatalf("with %d steps %s tells %v, and folded %v", fuel, dump(m), want, got)
		}
	}
	return all
}

func TestFoldOfTexts(t *testing.T) {
	wantOfTexts(t, wantFoldHeld)
}

// wantFoldOfLeaves puts each of all leaves at each place of all expressions of that many.
func wantFoldOfLeaves(t *testing.T, count int, leaves ...string) {
	t.Helper()
	ways := 1
	for range count {
		ways *= len(leaves)
	}
	for _, exprs := range treesOf(count) {
		form := impl.Print(impl.Mod{Exprs: exprs, Stmts: []impl.Stmt{{Kind: impl.StThrow, Expr: len(exprs) - 1}}}, true)
		for way := range ways {
			text := form
			for range count {
				text = strings.Replace(text, "1", leaves[way%len(leaves)], 1)
				way /= len(leaves)
			}
			m := mustParse(t, strings.ReplaceAll(text, "#", "1"), true)
			wantFoldHeld(t, m)
			wantFoldRun(t, m, 0)
		}
	}
}

// The leaves have # for 1, so that none is replaced again.
func TestFoldOfAllSmallExpressions(t *testing.T) {
	wantFoldOfLeaves(t, 1, "0", "#", "#000000", "a", "a()", "undef", "n.a")
	wantFoldOfLeaves(t, 2, "0", "#", "2", "999", "#000", "#00#", "999999", "#000000", "a", "undef()")
	wantFoldOfLeaves(t, 3, "0", "#", "3", "#000000", "a")
	wantFoldOfLeaves(t, 4, "2", "a")
}

// foldMaker writes scripts of many numbers.
type foldMaker struct{ *rand.Rand }

func (k foldMaker) one(of ...string) string {
	return of[k.Intn(len(of))]
}

func (k foldMaker) expr(more int) string {
	switch {
	case more > 0 && k.Intn(4) > 0:
		return "(" + k.expr(more-1) + k.one("+", "-", "-", "*") + k.expr(more-1) + ")"
	case k.Intn(6) == 0:
		return k.one("a", "b", "f()", "g()")
	case k.Intn(80) == 0:
		return k.one("a()", "f", "undef", "none", "undef()")
	case k.Intn(12) == 0:
		return k.one("999", "1000", "1001", "999999", "1000000")
	}
	return k.one("0", "1", "2", "3", "5", "7")
}

func (k foldMaker) script() string {
	text := "let a = " + k.expr(2) + "; function f() { return " + k.expr(2) + "; } let b = " + k.expr(3) + "; function g() { return " + strings.ReplaceAll(k.expr(2), "g()", "f()") + "; }"
	if k.Intn(8) > 0 {
		text = strings.Replace(text, "f() {", "@", 1)
		text = strings.Replace(strings.ReplaceAll(text, "f()", "3"), "@", "f() {", 1)
	}
	for range 1 + k.Intn(5) {
		switch k.Intn(16) {
		case 0:
			text += "throw " + k.expr(3) + ";"
		case 1:
			text += "fail " + k.expr(2) + ";"
		case 2, 3:
			text += k.one("a", "b", "a", "b", "none") + " = " + k.expr(3) + ";"
		default:
			text += "print(" + k.expr(3) + ");"
		}
	}
	return text
}

func TestFoldOfManyScripts(t *testing.T) {
	k := foldMaker{rand.New(rand.NewSource(31))}
	ends, below, went := map[int]int{}, 0, 0
	for i := range 1000 {
		m := mustParse(t, k.script(), true)
		wantFoldHeld(t, m)
		for i := range m.Exprs {
			if n, is := impl.Known(m, i); is && n < 0 {
				below++
			}
		}
		went += impl.Size(m) - impl.Size(impl.Fold(m))
		// Up to the end it takes long: a tenth of them.
		most := 4
		if i%10 == 0 {
			most = math.MaxInt
		}
		if impl.RunScript(m, impl.MaxFuel).End != impl.TrFuel {
			ends[wantFoldRun(t, m, most).End]++
		}
	}
	wantEnds(t, ends, 12, impl.TrDone, impl.TrThrow, impl.TrRef, impl.TrType, impl.TrRange)
	if below < 1300 || went < 6500 {
		t.Errorf("%d Exprs are below 0, %d went: that tells too little", below, went)
	}
}

// The scripts that bundles are.
func TestFoldOfManyBundles(t *testing.T) {
	k := &runMaker{Rand: rand.New(rand.NewSource(32))}
	ends, went := map[int]int{}, 0
	for i := range 300 {
		m, f := impl.Bundle(mustLoad(t, k.files(1+i%4), "/a"))
		if f != (impl.Fault{}) || impl.RunScript(m, impl.MaxFuel).End == impl.TrFuel {
			ends[-1]++
			continue
		}
		wantFoldHeld(t, m)
		ends[wantFoldRun(t, m, 60).End]++
		went += impl.Size(m) - impl.Size(impl.Fold(m))
	}
	wantEnds(t, ends, 4, -1, impl.TrDone, impl.TrThrow, impl.TrRef, impl.TrType, impl.TrRange)
	if went < 500 {
		t.Errorf("%d Exprs went: that tells too little", went)
	}
}

// meddledWith are programs of few numbers and scripts of many, by turns, some of them changed a few times.
func meddledWith(t *testing.T, script bool, count int) []impl.Mod {
	t.Helper()
	k, f := newMaker(script), foldMaker{rand.New(rand.NewSource(33))}
	mods := []impl.Mod{}
	for i := range count {
		m, _ := k.make()
		if i%2 == 0 {
			m = mustParse(t, f.script(), true)
		}
		for range i % 5 {
			k.meddle(&m)
		}
		if len(m.Exprs) > 0 && i%7 == 0 {
			m.Exprs[k.Intn(len(m.Exprs))].Num = oddNums()[k.Intn(len(oddNums()))]
		}
		mods = append(mods, m)
	}
	return mods
}

func TestFoldOfMeddledPrograms(t *testing.T) {
	for _, script := range inBoth {
		right, wrong, empty, folded := 0, 0, 0, 0
		for _, m := range meddledWith(t, script, 3000) {
			wantFoldHeld(t, m)
			switch {
			case impl.ModOk(m, true):
				right++
			case impl.Print(m, true) == "":
				empty++
			default:
				wrong++
			}
			if !isSameMod(impl.Fold(m), m) {
				folded++
			}
		}
		if right < 400 || wrong < 400 || empty < 200 || folded < 200 {
			t.Errorf("%d are right, %d are wrong, %d have no text, %d are folded: that tells too little", right, wrong, empty, folded)
		}
	}
}

func TestFoldDoesNotWriteIntoPrograms(t *testing.T) {
	for _, script := range inBoth {
		for _, m := range meddledWith(t, script, 1000) {
			spare := withSpare(m)
			impl.Fold(spare)
			impl.Size(spare)
			for i := range m.Exprs {
				impl.Known(spare, i)
			}
			wantSpare(t, spare, m)
		}
	}
}
