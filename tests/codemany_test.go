package tests

import (
	"math"
	"math/rand"
	"slices"
	"strconv"
	"strings"
	"testing"

	"loop.example/g00777/impl"
)

// plainCompiler goes by the tokens of a text, not by the rows of a program.
type plainCompiler struct {
	tokens []impl.Token
	cells  []string
}

func (p *plainCompiler) take() string {
	k := p.tokens[0]
	p.tokens = p.tokens[1:]
	return tokenText(k)
}

func (p *plainCompiler) isNext(sign string) bool {
	return len(p.tokens) > 0 && p.tokens[0].Text == sign
}

// expect passes over tokens that must stand there.
func (p *plainCompiler) expect(tokens string) {
	for _, want := range strings.Fields(tokens) {
		if got := p.take(); got != want {
			panic(got + " stands where " + want + " should")
		}
	}
}

func (p *plainCompiler) sum() []impl.Ins {
	left := p.product()
	for p.isNext("+") || p.isNext("-") {
		op := map[string]int{"+": 7, "-": 8}[p.take()]
		left = slices.Concat([]impl.Ins{{Op: 1}}, left, p.product(), []impl.Ins{{Op: op}})
	}
	return left
}

func (p *plainCompiler) product() []impl.Ins {
	left := p.part()
	for p.isNext("*") {
		p.expect("*")
		left = slices.Concat([]impl.Ins{{Op: 1}}, left, p.part(), []impl.Ins{{Op: 9}})
	}
	return left
}

func (p *plainCompiler) part() []impl.Ins {
	if p.isNext("(") {
		p.expect("(")
		l := p.sum()
		p.expect(")")
		return l
	}
	word := p.take()
	if n, err := strconv.Atoi(word); err == nil {
		return []impl.Ins{{Op: 1}, {Op: 2, N: n}}
	}
	l := []impl.Ins{{Op: 1}, {Op: 5}}
	if cell := slices.Index(p.cells, word); cell >= 0 {
		l[1] = impl.Ins{Op: 4, N: cell}
	} else if word == "undef" {
		l[1] = impl.Ins{Op: 3}
	}
	if p.isNext("(") {
		p.expect("( )")
		l = append(l, impl.Ins{Op: 6})
	}
	return l
}

// statement tells, beside its instructions, those of the function that it declares.
func (p *plainCompiler) statement() (ins, behind []impl.Ins) {
	word := p.take()
	last := impl.Ins{}
	switch word {
	case "function":
		p.take()
		p.expect("( ) { return")
		behind = append(p.sum(), impl.Ins{Op: 15})
		p.expect("; }")
		return []impl.Ins{{Op: 1}}, behind
	case "print", "throw", "fail":
		last.Op = map[string]int{"print": 12, "throw": 13, "fail": 14}[word]
	case "let":
		last = impl.Ins{Op: 10, N: slices.Index(p.cells, p.take())}
		p.expect("=")
	default:
		if last = (impl.Ins{Op: 11, N: slices.Index(p.cells, word)}); last.N < 0 {
			last = impl.Ins{Op: 17}
		}
		p.expect("=")
	}
	ins = slices.Concat([]impl.Ins{{Op: 1}}, p.sum(), []impl.Ins{last})
	p.expect(";")
	return ins, nil
}

// plainCode is the code of the text of a script that is right.
func plainCode(m impl.Mod) impl.Code {
	tokens, _ := impl.Lex(impl.Print(m, true), true)
	p, c := &plainCompiler{tokens: tokens}, impl.Code{}
	for _, s := range standingsIn(tokens) {
		if s.isDeclared {
			p.cells = append(p.cells, s.name)
		}
	}
	functions := [][]impl.Ins{}
	for len(p.tokens) > 0 {
		ins, behind := p.statement()
		c.Ins = append(c.Ins, ins...)
		if behind != nil {
			functions = append(functions, behind)
		}
	}
	c.Ins = append(c.Ins, impl.Ins{Op: 16})
	c.Cells = p.cells
	for _, name := range p.cells {
		entry := -1
		if strings.Contains("\n"+impl.Print(m, true), "\nfunction "+name+"(") {
			entry = len(c.Ins)
			c.Ins, functions = append(c.Ins, functions[0]...), functions[1:]
		}
		c.Entries = append(c.Entries, entry)
	}
	return c
}

// wantCodeHeld asks for what holds of Compile of any Mod.
func wantCodeHeld(t *testing.T, m impl.Mod) {
	t.Helper()
	c, ok := impl.Compile(m)
	if !impl.ModOk(m, true) || impl.Early(m, true) != impl.EaOk {
		if ok || !isSameCode(c, impl.Code{}) {
			t.Fatalf("%+v is no right script, and Compile of it is %+v, %v", m, c, ok)
		}
		return
	}
	if want := plainCode(m); !ok || !isSameCode(c, want) {
		t.Fatalf("Compile of %s is %v:\n%s %s, not\n%s %s", dump(m), ok, insText(c.Ins), cellsText(c), insText(want.Ins), cellsText(want))
	}
	// Each statement and each expression has a step; and beside them and the end each has one more, a call two.
	steps := 0
	for _, ins := range c.Ins {
		if ins.Op == impl.OpStep {
			steps++
		}
	}
	if want := len(m.Stmts) + len(m.Exprs); steps != want || len(c.Ins) != 2*want+callsIn(m)+1 {
		t.Fatalf("Compile of %s has %d steps, not %d, in %d instructions", dump(m), steps, want, len(c.Ins))
	}
	wantCellsHeld(t, m, c)
}

// wantCellsHeld asks that cells are what is declared, and entries where functions begin.
func wantCellsHeld(t *testing.T, m impl.Mod, c impl.Code) {
	t.Helper()
	if !slices.Equal(c.Cells, declaredIn(m)) || anyTwice(c.Cells) {
		t.Fatalf("the cells of %s are %q", dump(m), c.Cells)
	}
	for i, name := range c.Cells {
		if got := impl.Named(c, name); got != i {
			t.Fatalf("the cell %q of %s is %d, not %d", name, dump(m), got, i)
		}
		isFunction := slices.ContainsFunc(m.Stmts, func(s impl.Stmt) bool { return s.Kind == impl.StFn && s.Name == name })
		entry := c.Entries[i]
		if isFunction != (entry != -1) {
			t.Fatalf("the entry of %q of %s is %d", name, dump(m), entry)
		}
		if ends := []int{impl.OpEnd, impl.OpRet}; isFunction && (c.Ins[entry].Op != impl.OpStep || !slices.Contains(ends, c.Ins[entry-1].Op)) {
			t.Fatalf("the entry of %q of %s is %d in %s", name, dump(m), entry, insText(c.Ins))
		}
	}
	for _, name := range impl.FreeNames(m) {
		if got := impl.Named(c, name); got != -1 {
			t.Fatalf("%q of %s is free, and is the cell %d", name, dump(m), got)
		}
	}
}

// plainFunction is where the instructions of a function begin.
type plainFunction int

// machine does one instruction behind the other. A number is an int, undefined is nil; what is unset is not there.
type machine struct {
	slots map[int]any
	stack []any
	back  []int
	pc    int
	trace impl.Trace
}

func (p *machine) take() any {
	v := p.stack[len(p.stack)-1]
	p.stack = p.stack[:len(p.stack)-1]
	return v
}

func machineText(v any) string {
	if _, is := v.(plainFunction); is {
		return "function"
	}
	return plainText(v)
}

// plainMachine is what code tells by what the document says of each instruction.
func plainMachine(c impl.Code, fuel int) impl.Trace {
	p := &machine{slots: map[int]any{}}
	for i, entry := range c.Entries {
		if entry != -1 {
			p.slots[i] = plainFunction(entry)
		}
	}
	fuel = min(max(fuel, 0), 100000)
	for p.trace.End = -1; p.trace.End == -1; {
		ins := c.Ins[p.pc]
		p.pc++
		switch ins.Op {
		case impl.OpStep:
			if fuel == 0 {
				p.trace.End = impl.TrFuel
			}
			fuel--
		case impl.OpAdd, impl.OpSub, impl.OpMul:
			p.reckon(ins.Op)
		case impl.OpCall, impl.OpRet:
			p.jump(ins.Op)
		case impl.OpNum, impl.OpUndef, impl.OpLoad, impl.OpBad:
			p.put(ins)
		default:
			p.end(ins)
		}
	}
	return p.trace
}

func (p *machine) put(ins impl.Ins) {
	v, isSet := p.slots[ins.N]
	switch {
	case ins.Op == impl.OpNum:
		p.stack = append(p.stack, ins.N)
	case ins.Op == impl.OpUndef:
		p.stack = append(p.stack, nil)
	case ins.Op == impl.OpLoad && isSet:
		p.stack = append(p.stack, v)
	default:
		p.trace.End = impl.TrRef
	}
}

func (p *machine) reckon(op int) {
	r, isRight := p.take().(int)
	l, isLeft := p.take().(int)
	n := map[int]int{impl.OpAdd: l + r, impl.OpSub: l - r, impl.OpMul: l * r}[op]
	switch {
	case !isLeft || !isRight:
		p.trace.End = impl.TrType
	case max(n, -n) > 1000000:
		p.trace.End = impl.TrRange
	default:
		p.stack = append(p.stack, n)
	}
}

func (p *machine) jump(op int) {
	if op == impl.OpRet {
		p.pc, p.back = p.back[len(p.back)-1], p.back[:len(p.back)-1]
		return
	}
	f, isFunction := p.take().(plainFunction)
	switch {
	case !isFunction:
		p.trace.End = impl.TrType
	case len(p.back) == 30:
		p.trace.End = impl.TrRange
	default:
		p.back, p.pc = append(p.back, p.pc), int(f)
	}
}

// end does the last instruction of a statement, or of all.
func (p *machine) end(ins impl.Ins) {
	if ins.Op == impl.OpEnd {
		if len(p.stack) > 0 || len(p.back) > 0 {
			panic("something is left at the end")
		}
		p.trace.End = impl.TrDone
		return
	}
	v := p.take()
	switch ins.Op {
	case impl.OpSet, impl.OpLet:
		if _, isSet := p.slots[ins.N]; ins.Op == impl.OpSet && !isSet {
			p.trace.End = impl.TrRef
		}
		p.slots[ins.N] = v
	case impl.OpSetBad:
		p.trace.End = impl.TrRef
	case impl.OpPrint:
		p.trace.Out = append(p.trace.Out, machineText(v))
	case impl.OpThrow:
		p.trace.End, p.trace.Text = impl.TrThrow, machineText(v)
	case impl.OpFail:
		p.trace.End = impl.TrType
	default:
		panic("no such instruction: " + insText([]impl.Ins{ins}))
	}
}

// wantCodeRun holds what code tells against RunScript of the script, with each number of steps up to its end, or to most.
func wantCodeRun(t *testing.T, m impl.Mod, most int) impl.Trace {
	t.Helper()
	code, _ := impl.Compile(m)
	c := plainCourse(scriptGraph(m), true)
	if c.at > impl.MaxFuel {
		most = min(most, 20)
	}
	wantEachFuel(t, "the code of "+dump(m), func(fuel int) impl.Trace {
		trace := plainMachine(code, fuel)
		if before := impl.RunScript(m, fuel); !isSameTrace(trace, before) {
			t.Fatalf("with %d steps %s tells %v, and its code %s tells %v", fuel, dump(m), before, insText(code.Ins), trace)
		}
		return trace
	}, c, most)
	return c.with(impl.MaxFuel)
}

func TestCodeOfTexts(t *testing.T) {
	wantOfTexts(t, wantCodeHeld)
	for _, c := range slices.Concat(bothItems(), scriptItems()) {
		for _, behind := range []string{``, `print(1);`, `function f1() { return 1; }`} {
			if m, bad := impl.Parse(c.text+behind, true); bad == -1 {
				wantCodeHeld(t, m)
			}
		}
	}
}

// leafOf is a leaf of each kind by its number, most of them numbers.
func leafOf(n int) impl.Expr {
	leaves := []impl.Expr{
		{Kind: impl.ExNum, Num: 7}, {Kind: impl.ExName, Name: "one"}, {Kind: impl.ExCall, Name: "two"}, {Kind: impl.ExNum}, {Kind: impl.ExNum, Num: impl.MaxNum}, {Kind: impl.ExName, Name: "one"}, {Kind: impl.ExCall, Name: "two"}, {Kind: impl.ExName, Name: "one"},
		{Kind: impl.ExName, Name: "two"}, {Kind: impl.ExName, Name: "undef"}, {Kind: impl.ExName, Name: "none"}, {Kind: impl.ExCall, Name: "one"}, {Kind: impl.ExCall, Name: "undef"}, {Kind: impl.ExCall, Name: "none"},
	}
	return leaves[n%len(leaves)]
}

// wantCodeInEach asks for the code of an expression in each kind of statement.
func wantCodeInEach(t *testing.T, exprs []impl.Expr, ends map[int]int) {
	t.Helper()
	ahead := mustParse(t, `let one = 3; function two() { return one - 5; }`, true)
	for kind, name := range map[int]string{impl.StPrint: "", impl.StThrow: "", impl.StFail: "", impl.StSet: "one", impl.StFn: "three", impl.StLet: "four"} {
		m := joined(ahead, impl.Mod{Exprs: slices.Clone(exprs), Stmts: []impl.Stmt{{Kind: kind, Name: name, Expr: len(exprs) - 1}}})
		if kind == impl.StFn {
			m = joined(m, mustParse(t, `print(three());`, true))
		}
		if !impl.ModOk(m, true) {
			t.Fatalf("%s is not what the test stands on", dump(m))
		}
		wantCodeHeld(t, m)
		ends[wantCodeRun(t, m, math.MaxInt).End]++
	}
}

// All expressions of one leaf and of two, and each form of those of three and of four.
func TestCodeOfAllSmallExpressions(t *testing.T) {
	ends := map[int]int{}
	for n := range 14 * 14 {
		for _, exprs := range append(treesOf(1), treesOf(2)...) {
			exprs[0] = leafOf(n)
			if len(exprs) > 1 {
				exprs[1] = leafOf(n / 14)
			}
			wantCodeInEach(t, exprs, ends)
		}
	}
	r := rand.New(rand.NewSource(54))
	for _, exprs := range append(treesOf(3), treesOf(4)...) {
		for i := range exprs {
			if exprs[i].Kind == impl.ExNum {
				exprs[i] = leafOf(r.Intn(200))
			}
		}
		wantCodeInEach(t, exprs, ends)
	}
	wantEnds(t, ends, 100, impl.TrDone, impl.TrThrow, impl.TrRef, impl.TrType, impl.TrRange)
}

// All scripts of three statements out of few.
func TestCodeOfAllSmallScripts(t *testing.T) {
	statements := []string{
		`let a = 1;`, `let a = b;`, `let b = a();`, `let b = undef - 1;`, `function a() { return b; }`, `function b() { return 5; }`, `function c() { return a() + c; }`,
		`a = b;`, `b = a + 1;`, `none = a;`, `print(a);`, `print(b() - a);`, `print(none);`, `throw a;`, `fail b();`,
	}
	ends := map[int]int{}
	texts := []string{""}
	for range 3 {
		more := []string{}
		for _, text := range texts {
			for _, statement := range statements {
				more = append(more, text+statement)
			}
		}
		texts = more
		for _, text := range texts {
			m := mustParse(t, text, true)
			wantCodeHeld(t, m)
			if impl.Early(m, true) == impl.EaOk {
				ends[wantCodeRun(t, m, math.MaxInt).End]++
			} else {
				ends[-1]++
			}
		}
	}
	wantEnds(t, ends, 40, -1, impl.TrDone, impl.TrThrow, impl.TrRef, impl.TrType)
}

// opCounts tells how often code has each kind of instruction.
func opCounts(counts map[int]int, l []impl.Ins) {
	for _, ins := range l {
		counts[ins.Op]++
	}
}

func wantAllOps(t *testing.T, counts map[int]int, least int) {
	t.Helper()
	for op := impl.OpStep; op <= impl.OpSetBad; op++ {
		if counts[op] < least {
			t.Errorf("the instructions are %v: that tells too little", counts)
		}
	}
}

func TestCodeOfManyScripts(t *testing.T) {
	k, f := &shortMaker{Rand: rand.New(rand.NewSource(51))}, foldMaker{rand.New(rand.NewSource(52))}
	ends, ops := map[int]int{}, map[int]int{}
	for i := range 2000 {
		text := k.script()
		if i%4 == 0 {
			text = f.script()
		}
		m := mustParse(t, text, true)
		wantCodeHeld(t, m)
		// Up to the end it takes long: a tenth of them.
		most := 4
		if i%10 == 0 {
			most = math.MaxInt
		}
		ends[wantCodeRun(t, m, most).End]++
		c, _ := impl.Compile(m)
		opCounts(ops, c.Ins)
	}
	wantEnds(t, ends, 25, impl.TrDone, impl.TrThrow, impl.TrRef, impl.TrType, impl.TrRange)
	wantAllOps(t, ops, 100)
}

// The scripts that bundles are, and what comes of them when they are folded and shortened.
func TestCodeOfManyBundles(t *testing.T) {
	k := &runMaker{Rand: rand.New(rand.NewSource(53))}
	ends, ops := map[int]int{}, map[int]int{}
	for i := range 300 {
		g := mustLoad(t, k.files(1+i%4), "/a")
		m, f := impl.Bundle(g)
		if f != (impl.Fault{}) || impl.RunScript(m, impl.MaxFuel).End == impl.TrFuel {
			continue
		}
		most := 4
		if i%10 == 0 {
			most = math.MaxInt
		}
		wantCodeHeld(t, m)
		ends[wantCodeRun(t, m, most).End]++
		c, _ := impl.Compile(m)
		opCounts(ops, c.Ins)
		for _, fuel := range []int{0, 5, 20, 60, impl.MaxFuel} {
			if got, want := plainMachine(c, fuel), impl.Run(g, fuel); !isSameTrace(got, want) {
				t.Fatalf("with %d steps %s tells %v, and the code of its bundle %v", fuel, textOf(g), want, got)
			}
		}
		short, folded := impl.Shorten(m), impl.Fold(m)
		wantCodeHeld(t, folded)
		wantCodeRun(t, folded, 0)
		// What names are called is nothing to the instructions.
		if other, ok := impl.Compile(short); !ok || !slices.Equal(other.Ins, c.Ins) || !slices.Equal(other.Entries, c.Entries) || !slices.Equal(other.Cells, declaredIn(short)) {
			t.Fatalf("%s is compiled to %+v, and with short names to %+v", dump(m), c, other)
		}
	}
	wantEnds(t, ends, 8, impl.TrDone, impl.TrThrow, impl.TrRef, impl.TrType, impl.TrRange)
	wantAllOps(t, ops, 10)
}

func TestCodeOfMeddledPrograms(t *testing.T) {
	for _, script := range inBoth {
		right, wrong, early := 0, 0, 0
		for _, m := range shortMeddled(t, script, 4000) {
			wantCodeHeld(t, m)
			switch {
			case !impl.ModOk(m, true):
				wrong++
			case impl.Early(m, true) != impl.EaOk:
				early++
			default:
				wantCodeRun(t, m, 0)
				right++
			}
		}
		if right < 1000 || wrong < 1000 || early < 50 {
			t.Errorf("%d are right, %d are wrong, %d have early errors: that tells too little", right, wrong, early)
		}
	}
}

func TestCompileDoesNotWriteIntoPrograms(t *testing.T) {
	for _, script := range inBoth {
		for _, m := range shortMeddled(t, script, 1000) {
			spare := withSpare(m)
			c, _ := impl.Compile(spare)
			wantSpare(t, spare, m)
			wantCodeApart(t, c, spare)
		}
	}
}
