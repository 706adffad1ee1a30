package tests

import (
	"fmt"
	"math"
	"slices"
	"strconv"
	"strings"
	"testing"

	"loop.example/g00777/impl"
)

// course is what a program does with all the steps it wants: what it prints, each line behind how many steps, and how it ends, behind how many.
type course struct {
	lines []string
	ats   []int
	end   int
	text  string
	at    int
}

// with is what is told where the steps are fewer, or are not.
func (c course) with(fuel int) impl.Trace {
	fuel = min(max(fuel, 0), 100000)
	trace := impl.Trace{End: impl.TrFuel}
	for i, at := range c.ats {
		if at <= fuel {
			trace.Out = append(trace.Out, c.lines[i])
		}
	}
	if c.at <= fuel {
		trace.End, trace.Text = c.end, c.text
	}
	return trace
}

// courseOf reads "2:5 4:function 6:throw:7": 5 is printed behind two steps, then a function, then 7 is thrown behind six in all.
func courseOf(text string) course {
	ends := map[string]int{"done": impl.TrDone, "throw": impl.TrThrow, "ref": impl.TrRef, "type": impl.TrType, "range": impl.TrRange}
	c := course{end: -1}
	words := strings.Fields(text)
	for i, word := range words {
		parts := strings.Split(word, ":")
		at, err := strconv.Atoi(parts[0])
		if err != nil {
			panic(err)
		}
		if i < len(words)-1 {
			c.ats, c.lines = append(c.ats, at), append(c.lines, parts[1])
			continue
		}
		end, known := ends[parts[1]]
		if !known {
			panic("no end: " + text)
		}
		c.at, c.end, c.text = at, end, strings.Join(parts[2:], ":")
	}
	return c
}

// plainRunner does one thing behind the other from a list of what is still to be done. Whose a name is it asks anew each time.
type plainRunner struct {
	g      impl.Graph
	script bool
	// A number is an int, a function the numbers of its module and its expression, undefined is nil; what is unset is not there.
	store  map[impl.Bind]any
	jobs   []func()
	values []any
	inside int
	course
}

func plainCourse(g impl.Graph, script bool) course {
	p := &plainRunner{g: g, script: script, store: map[impl.Bind]any{}}
	for m, mod := range g.Mods {
		for _, s := range mod.Stmts {
			if s.Kind == impl.StFn {
				p.store[found(m, s.Name)] = [2]int{m, s.Expr}
			}
		}
	}
	p.end = impl.TrDone
	statements := []func(){}
	for _, m := range plainOrder(g) {
		for _, s := range g.Mods[m].Stmts {
			statements = append(statements, func() { p.statement(m, s) })
		}
	}
	p.next(statements...)
	for len(p.jobs) > 0 {
		job := p.jobs[len(p.jobs)-1]
		p.jobs = p.jobs[:len(p.jobs)-1]
		// More steps than these no program has.
		if job(); p.at > 100001 {
			break
		}
	}
	return p.course
}

// next has jobs done ahead of all that there are.
func (p *plainRunner) next(jobs ...func()) {
	for _, job := range slices.Backward(jobs) {
		p.jobs = append(p.jobs, job)
	}
}

func (p *plainRunner) stop(end int) {
	p.end, p.jobs = end, nil
}

func (p *plainRunner) put(v any) {
	p.values = append(p.values, v)
}

func (p *plainRunner) take() any {
	v := p.values[len(p.values)-1]
	p.values = p.values[:len(p.values)-1]
	return v
}

func plainText(v any) string {
	switch v := v.(type) {
	case int:
		return fmt.Sprint(v)
	case [2]int:
		return "function"
	}
	return "undefined"
}

func (p *plainRunner) statement(m int, s impl.Stmt) {
	p.at++
	last := map[int]func(){
		impl.StLet: func() { p.store[found(m, s.Name)] = p.take() },
		impl.StSet: func() { p.set(m, s.Name) },
		impl.StPrint: func() {
			p.lines, p.ats = append(p.lines, plainText(p.take())), append(p.ats, p.at)
		},
		impl.StThrow: func() {
			p.text = plainText(p.take())
			p.stop(impl.TrThrow)
		},
		impl.StFail: func() { p.stop(impl.TrType) },
	}
	if s.Kind != impl.StFn {
		p.next(func() { p.expression(m, s.Expr) }, last[s.Kind])
	}
}

func (p *plainRunner) set(m int, name string) {
	v, bind := p.take(), p.whose(m, name, "")
	_, isSet := p.store[bind]
	switch {
	case slices.ContainsFunc(p.g.Mods[m].Imps, func(i impl.Imp) bool { return i.Local == name }):
		p.stop(impl.TrType)
	case !isSet:
		p.stop(impl.TrRef)
	default:
		p.store[bind] = v
	}
}

// whose is the binding of a name, or of a field of it, as a module has it.
func (p *plainRunner) whose(m int, name, field string) impl.Bind {
	for _, imp := range p.g.Mods[m].Imps {
		switch {
		case imp.Local != name:
		case imp.From == "*":
			return plainBind(p.g, leadsTo(p.g, m, imp.Spec), field)
		default:
			return plainBind(p.g, leadsTo(p.g, m, imp.Spec), imp.From)
		}
	}
	return found(m, name)
}

func (p *plainRunner) expression(m, i int) {
	p.at++
	switch x := p.g.Mods[m].Exprs[i]; x.Kind {
	case impl.ExNum:
		p.put(x.Num)
	case impl.ExName, impl.ExMember:
		p.read(m, x)
	case impl.ExCall, impl.ExMemCall:
		p.next(func() { p.read(m, x) }, p.call)
	default:
		p.next(func() { p.expression(m, x.L) }, func() { p.expression(m, x.R) }, func() { p.reckon(x.Kind) })
	}
}

func (p *plainRunner) read(m int, x impl.Expr) {
	bind := p.whose(m, x.Name, x.Field)
	v, isSet := p.store[bind]
	switch {
	case x.Field != "" && bind.Kind != impl.BiFound, p.script && x.Name == "undef":
		p.put(nil)
	case isSet:
		p.put(v)
	default:
		p.stop(impl.TrRef)
	}
}

func (p *plainRunner) call() {
	f, isFunction := p.take().([2]int)
	switch {
	case !isFunction:
		p.stop(impl.TrType)
	case p.inside == 30:
		p.stop(impl.TrRange)
	default:
		p.inside++
		p.next(func() { p.expression(f[0], f[1]) }, func() { p.inside-- })
	}
}

func (p *plainRunner) reckon(kind int) {
	r, isRight := p.take().(int)
	l, isLeft := p.take().(int)
	n := map[int]int{impl.ExAdd: l + r, impl.ExSub: l - r, impl.ExMul: l * r}[kind]
	switch {
	case !isLeft || !isRight:
		p.stop(impl.TrType)
	case max(n, -n) > 1000000:
		p.stop(impl.TrRange)
	default:
		p.put(n)
	}
}

func isSameTrace(a, b impl.Trace) bool {
	return slices.Equal(a.Out, b.Out) && a.End == b.End && a.Text == b.Text
}

// oddFuels are beyond what a program may have, or below.
func oddFuels() []int {
	return []int{-1, -2, math.MinInt, math.MaxInt, impl.MaxFuel, impl.MaxFuel + 1, 1 << 32, -1 << 32}
}

// wantEachFuel asks for a course with each number of steps up to some more than it wants, or than most, and with odd ones.
func wantEachFuel(t *testing.T, what string, run func(fuel int) impl.Trace, c course, most int) {
	t.Helper()
	fuels := append(oddFuels(), c.at-1, c.at, c.at+1)
	for fuel := range min(c.at+3, most) {
		fuels = append(fuels, fuel)
	}
	for _, fuel := range fuels {
		if got, want := run(fuel), c.with(fuel); !isSameTrace(got, want) {
			t.Fatalf("with %d steps of %+v, %s tells %v, not %v", fuel, c, what, got, want)
		}
	}
}

// wantGraphCourse asks for a course of Run and of the bundle, with each number of steps.
func wantGraphCourse(t *testing.T, g impl.Graph, text string) {
	t.Helper()
	c := courseOf(text)
	if plain := plainCourse(g, false); fmt.Sprint(plain) != fmt.Sprint(c) {
		t.Fatalf("the plain course of %s is %+v, not %+v", textOf(g), plain, c)
	}
	wantEachFuel(t, textOf(g), func(fuel int) impl.Trace { return impl.Run(g, fuel) }, c, math.MaxInt)
	wantBundleCourse(t, g, c, math.MaxInt)
}

// scriptGraph is a script as a graph that only the plain rules take.
func scriptGraph(m impl.Mod) impl.Graph {
	return impl.Graph{Paths: []string{"/"}, Mods: []impl.Mod{m}}
}

// wantScriptCourse asks for a course of RunScript, with each number of steps.
func wantScriptCourse(t *testing.T, s, text string) {
	t.Helper()
	c, m := courseOf(text), mustParse(t, s, true)
	if plain := plainCourse(scriptGraph(m), true); fmt.Sprint(plain) != fmt.Sprint(c) {
		t.Fatalf("the plain course of %q is %+v, not %+v", s, plain, c)
	}
	wantEachFuel(t, s, func(fuel int) impl.Trace { return impl.RunScript(m, fuel) }, c, math.MaxInt)
}

// wantBothCourses asks for one course of a text as a module alone and as a script.
func wantBothCourses(t *testing.T, s, text string) {
	t.Helper()
	wantGraphCourse(t, linked(t, s), text)
	wantScriptCourse(t, s, text)
}

// twin is a program and its course.
type twin struct{ text, course string }

func wantBothOfAll(t *testing.T, l []twin) {
	t.Helper()
	for _, c := range l {
		wantBothCourses(t, c.text, c.course)
	}
}

func TestRunConstants(t *testing.T) {
	ends := []int{impl.TrDone, impl.TrThrow, impl.TrRef, impl.TrType, impl.TrRange, impl.TrFuel}
	if !slices.Equal(ends, []int{0, 1, 2, 3, 4, 5}) || impl.MaxCalls != 30 || impl.MaxFuel != 100000 {
		t.Errorf("the ends are %v, the limits %d and %d", ends, impl.MaxCalls, impl.MaxFuel)
	}
}

func TestRunOfEachStatement(t *testing.T) {
	wantBothOfAll(t, []twin{
		{``, `0:done`}, {`print(1);`, `2:1 2:done`}, {`let a = 1;`, `2:done`}, {`let a = 1; print(a);`, `4:1 4:done`},
		{`function f() { return 1; }`, `1:done`}, {`function f() { return none; } function g() { return 1 * f; }`, `2:done`},
		{`let a = 1; a = 2;`, `4:done`}, {`let a = 1; print(a); a = 2; print(a); a = a + 1; print(a);`, `4:1 8:2 14:3 14:done`},
		{`throw 7;`, `2:throw:7`}, {`throw 7; print(1);`, `2:throw:7`}, {`print(1); throw 2; throw 3;`, `2:1 4:throw:2`},
		{`print(1); print(2); print(2);`, `2:1 4:2 6:2 6:done`},
		{`let a = 1; let b = a; a = 5; print(b); print(a);`, `8:1 10:5 10:done`},
		{`function f() { return a; } let a = 1; let b = f(); a = 2; print(b); print(f());`, `10:1 13:2 13:done`},
	})
	wantScriptCourse(t, `fail 1;`, `2:type`)
	wantScriptCourse(t, `print(1); fail 1 + 2; print(2);`, `2:1 6:type`)
	wantGraphCourse(t, linked(t, `export let a = 1; export function f() { return 2; } export default a + f(); print(a); export { a as b }; print(f());`), `10:1 13:2 13:done`)
}

func TestRunOfEachExpression(t *testing.T) {
	wantBothOfAll(t, []twin{
		{`print(0);`, `2:0 2:done`}, {`print(1000000);`, `2:1000000 2:done`}, {`print((7));`, `2:7 2:done`},
		{`print(1 + 2);`, `4:3 4:done`}, {`print(5 - 7);`, `4:-2 4:done`}, {`print(3 * 4);`, `4:12 4:done`}, {`print(0 - 0);`, `4:0 4:done`}, {`print(0 * (0 - 5));`, `6:0 6:done`},
		{`print(1 + 2 * 3 - 4);`, `8:3 8:done`}, {`print((1 + 2) * (3 - 4));`, `8:-3 8:done`}, {`print(10 - 3 - 2);`, `6:5 6:done`}, {`print(10 - (3 - 2));`, `6:9 6:done`},
		{`let a = 3; print(a * a - a);`, `8:6 8:done`}, {`let a = 3; print(a - 4);`, `6:-1 6:done`},
		{`function f() { return 1; } print(f);`, `3:function 3:done`}, {`function f() { return 1; } print(f());`, `4:1 4:done`},
		{`function f() { return 1 + 2; } print(f() * f());`, `11:9 11:done`}, {`function f() { return g() + 1; } function g() { return 4; } print(f());`, `8:5 8:done`},
		// A function is a value like any other.
		{`function f() { return 7; } let g = f; print(g); print(g());`, `5:function 8:7 8:done`}, {`function f() { return g; } function g() { return 3; } let h = f(); print(h());`, `8:3 8:done`},
		{`function f() { return f; } let g = f(); let h = g(); print(h);`, `9:function 9:done`}, {`let a = f; function f() { return 1; } a = 2; print(a + f());`, `10:3 10:done`},
	})
	wantScriptCourse(t, `print(undef);`, `2:undefined 2:done`)
	wantScriptCourse(t, `let a$1 = undef; print(a$1); a$1 = 5; print(a$1 + 1); a$1 = undef; throw a$1;`, `4:undefined 10:6 14:throw:undefined`)
	g := linked(t, `import { x, f } from "./b"; import d from "./b"; import * as n from "./b"; print(x); print(f()); print(d); print(n.x + 1); print(n.f()); print(n.f); print(n.none); print(n.default);`, `export let x = 4; export function f() { return x - 9; } export default 6;`)
	wantGraphCourse(t, g, `7:4 12:-5 14:6 18:5 23:-5 25:function 27:undefined 29:6 29:done`)
}

func TestRunOfModulesInOrder(t *testing.T) {
	for _, c := range []struct {
		asks  []string
		order string
	}{
		{[]string{``}, "a"}, {[]string{asking("./a")}, "a"}, {[]string{asking("./b", "./c", "./d"), ``, ``, ``}, "bcda"}, {[]string{asking("./d", "./c", "./b"), ``, ``, ``}, "dcba"},
		{[]string{asking("./b"), asking("./c"), asking("./d"), ``}, "dcba"}, {[]string{asking("./c", "./b"), asking("./d"), asking("./b"), ``}, "dbca"},
		{[]string{asking("./c"), asking("./d", "./a"), asking("./d", "./b"), asking("./c")}, "dbca"}, {[]string{asking("./b", "./c"), asking("./c", "./a"), asking("./a", "./b")}, "cba"},
	} {
		texts := []string{}
		for i, asks := range c.asks {
			texts = append(texts, fmt.Sprintf(`%s print(%d); let a = %d; print(a);`, asks, i, 10*i))
		}
		want := ""
		for i, letter := range c.order {
			m := int(letter - 'a')
			want += fmt.Sprintf("%d:%d %d:%d ", 6*i+2, m, 6*i+6, 10*m)
		}
		want += fmt.Sprint(6*len(texts), ":done")
		g := linked(t, texts...)
		wantGraphCourse(t, g, want)
		slices.Reverse(g.Links)
		wantGraphCourse(t, g, want)
		// Where the program ends, it ends with all modules that would come behind.
		g = linked(t, append(slices.Clone(texts[:len(texts)-1]), texts[len(texts)-1]+`throw a;`)...)
		if at := strings.IndexByte(c.order, byte('a'+len(texts)-1)); at >= 0 {
			words := strings.Fields(want)[:2*at+2]
			wantGraphCourse(t, g, strings.Join(words, " ")+fmt.Sprintf(" %d:throw:%d", 6*at+8, 10*(len(texts)-1)))
		}
	}
	// A module without statements costs nothing, and a name of one is not one of another.
	wantGraphCourse(t, linked(t, `import "./b"; print(1); print(x);`, `import "./c"; let x = 2;`, ``), `4:1 6:ref`)
	wantGraphCourse(t, linked(t, `import "./b"; let x = 1; function f() { return x; } print(f());`, `let x = 2; function f() { return x + x; } print(f()); x = 3;`), `8:4 16:1 16:done`)
}

func TestRunTellsTextsOfValues(t *testing.T) {
	for _, c := range []struct{ value, text string }{
		{`0`, "0"}, {`7`, "7"}, {`1000000`, "1000000"}, {`0 - 1`, "-1"}, {`0 - 1000000`, "-1000000"}, {`10 * 10`, "100"}, {`f`, "function"}, {`f()`, "4"}, {`h()`, "function"}, {`n.none`, "undefined"}, {`u`, "undefined"}, {`n.x`, "-5"}, {`n.f`, "function"}, {`d`, "function"},
	} {
		for _, form := range []string{`print(E); throw E;`, `let v = E; print(v); throw v;`, `let v = 1; v = E; print(v); throw v;`, `function v() { return E; } print(v()); throw v();`, `export default E; print(me.default); throw me.default;`} {
			text := `import * as n from "./b"; import * as me from "./a"; import d from "./b"; function f() { return 4; } function h() { return f; } let u = n.none;`
			g := linked(t, text+strings.ReplaceAll(form, "E", c.value), `export let x = 0 - 5; export function f() { return 1; } export default f;`)
			want := impl.Trace{Out: []string{c.text}, End: impl.TrThrow, Text: c.text}
			if got := impl.Run(g, 100); !isSameTrace(got, want) {
				t.Errorf("Run of %s tells %v, not %v", textOf(g), got, want)
			}
		}
	}
	for _, c := range []struct{ value, text string }{{`undef`, "undefined"}, {`3 - 4`, "-1"}, {`f`, "function"}} {
		m := mustParse(t, `function f() { return undef; } print(`+c.value+`); throw `+c.value+`;`, true)
		if got := impl.RunScript(m, 100); !isSameTrace(got, impl.Trace{Out: []string{c.text}, End: impl.TrThrow, Text: c.text}) {
			t.Errorf("RunScript of %s tells %v", c.value, got)
		}
	}
}
