package tests

import (
	"fmt"
	"math"
	"slices"
	"strings"
	"testing"

	"loop.example/g00777/impl"
)

func TestRunOfStepsThatRunOut(t *testing.T) {
	// Each text wants just so many steps; with one fewer it is TrFuel, whatever the last one would have told.
	for _, c := range []struct {
		text string
		cost int
		end  int
	}{
		{`print(7);`, 2, impl.TrDone}, {`print(a);`, 2, impl.TrRef}, {`print(one);`, 2, impl.TrDone}, {`print(one());`, 2, impl.TrType}, {`print(f);`, 2, impl.TrDone}, {`print(f());`, 5, impl.TrDone}, {`print(1 + 2);`, 4, impl.TrDone}, {`print(1 + f);`, 4, impl.TrType}, {`print(f + 1);`, 4, impl.TrType}, {`print(f + a);`, 4, impl.TrRef}, {`print(a + f);`, 3, impl.TrRef},
		{`print(1000 * 1001);`, 4, impl.TrRange}, {`print(r());`, 32, impl.TrRange}, {`print(f() + f());`, 10, impl.TrDone}, {`print(1 + 2 * 3);`, 6, impl.TrDone}, {`print((1 + 2) * a);`, 6, impl.TrRef}, {`throw 1;`, 2, impl.TrThrow}, {`throw 1 + f();`, 7, impl.TrThrow}, {`throw f + 1;`, 4, impl.TrType},
		{`let v = 1;`, 2, impl.TrDone}, {`let v = f() - 1;`, 7, impl.TrDone}, {`one = 1;`, 2, impl.TrDone}, {`one = a;`, 2, impl.TrRef}, {`a = 1;`, 2, impl.TrRef}, {`a = f();`, 5, impl.TrRef}, {`function g() { return a; }`, 1, impl.TrDone}, {`f = 1; print(f);`, 4, impl.TrDone},
	} {
		// What stands ahead costs six steps.
		text := `function f() { return one + one; } function r() { return r(); } let one = 1; print(0);` + c.text
		g, m := linked(t, text), mustParse(t, text, true)
		for fuel := range 6 + c.cost {
			want := impl.Trace{End: impl.TrFuel}
			if fuel >= 6 {
				want.Out = []string{"0"}
			}
			if got := impl.Run(g, fuel); !isSameTrace(got, want) {
				t.Errorf("with %d steps Run of %q tells %v, not %v", fuel, text, got, want)
			}
			if got := impl.RunScript(m, fuel); !isSameTrace(got, want) {
				t.Errorf("with %d steps RunScript of %q tells %v, not %v", fuel, text, got, want)
			}
		}
		for _, fuel := range []int{6 + c.cost, 7 + c.cost, impl.MaxFuel, math.MaxInt} {
			got, script := impl.Run(g, fuel), impl.RunScript(m, fuel)
			if got.End != c.end || !isSameTrace(got, script) {
				t.Errorf("with %d steps %q tells %v and %v, not %d", fuel, text, got, script, c.end)
			}
		}
	}
	for _, c := range []struct {
		text string
		cost int
	}{{`fail 1;`, 2}, {`fail undef;`, 2}, {`fail f;`, 2}, {`fail 1 + 2;`, 4}, {`fail f();`, 3}} {
		wantScriptCourse(t, `function f() { return 1; } print(0);`+c.text+`print(1);`, fmt.Sprintf("3:0 %d:type", 3+c.cost))
	}
	wantScriptCourse(t, `print(0); fail none;`, `2:0 4:ref`)
	wantScriptCourse(t, `print(0); fail 1 + 1000000;`, `2:0 6:range`)
	wantScriptCourse(t, `print(0); fail undef();`, `2:0 4:type`)
}

func TestRunWithoutSteps(t *testing.T) {
	for _, fuel := range []int{0, -1, -2, -impl.MaxFuel, math.MinInt} {
		for _, text := range []string{`print(1);`, `let a = 1;`, `function f() { return 1; }`, `print(none);`, `throw 1;`, `a = 1;`, `let a = 1; let b = 2;`} {
			want := impl.Trace{End: impl.TrFuel}
			if got := impl.Run(linked(t, text), fuel); !isSameTrace(got, want) {
				t.Errorf("with %d steps Run of %q tells %v", fuel, text, got)
			}
			if got := impl.RunScript(mustParse(t, text, true), fuel); !isSameTrace(got, want) {
				t.Errorf("with %d steps RunScript of %q tells %v", fuel, text, got)
			}
		}
		// Without a statement there is nothing to do.
		for _, g := range []impl.Graph{linked(t, ``), linked(t, `import "./b";`, `export * from "./a";`)} {
			if got := impl.Run(g, fuel); !isSameTrace(got, impl.Trace{}) {
				t.Errorf("with %d steps Run of %s tells %v", fuel, textOf(g), got)
			}
		}
		if got := impl.RunScript(impl.Mod{}, fuel); !isSameTrace(got, impl.Trace{}) {
			t.Errorf("with %d steps RunScript of nothing tells %v", fuel, got)
		}
	}
}

// costing is a program that costs just so many steps, and prints as it goes.
func costing(steps int) string {
	text := strings.Builder{}
	text.WriteString("function d0() { return 0; }\n")
	for i := 1; i < 15; i++ {
		fmt.Fprintf(&text, "function d%d() { return d%d() + d%d(); }\n", i, i-1, i-1)
	}
	steps -= 15
	// To print d0() costs three steps, and that of each other one twice as many as that of the one ahead, and one.
	for i := 14; i >= 0; i-- {
		for cost := 4<<i - 1; steps >= cost; steps -= cost {
			fmt.Fprintf(&text, "print(d%d());\n", i)
		}
	}
	for i := range steps {
		fmt.Fprintf(&text, "function e%d() { return 0; }\n", i)
	}
	return text.String()
}

func TestRunOfTheMostSteps(t *testing.T) {
	for _, steps := range []int{1000, impl.MaxFuel - 1, impl.MaxFuel, impl.MaxFuel + 1, impl.MaxFuel + 2, 2 * impl.MaxFuel} {
		text := costing(steps)
		g, m := linked(t, text), mustParse(t, text, true)
		c := plainCourse(g, false)
		if steps <= impl.MaxFuel && c.at != steps {
			t.Fatalf("it costs %d steps, not %d", c.at, steps)
		}
		fuels := append(oddFuels(), 0, 1, 999, 1000, 1001, steps-1, steps, steps+1, impl.MaxFuel-2, impl.MaxFuel-1)
		for _, fuel := range fuels {
			want := c.with(fuel)
			if steps > impl.MaxFuel && want.End != impl.TrFuel {
				t.Fatalf("%d steps would be enough for %d", fuel, steps)
			}
			if got := impl.Run(g, fuel); !isSameTrace(got, want) {
				t.Errorf("with %d steps of %d Run tells %d, %q and %d lines, not %d and %d", fuel, steps, got.End, got.Text, len(got.Out), want.End, len(want.Out))
			}
			if got := impl.RunScript(m, fuel); !isSameTrace(got, want) {
				t.Errorf("with %d steps of %d RunScript tells %d, %q and %d lines, not %d and %d", fuel, steps, got.End, got.Text, len(got.Out), want.End, len(want.Out))
			}
		}
	}
}

// wantMoreWithMore asks that each trace goes on as the one ahead of it, which had fewer steps, and is the same where that had ended.
func wantMoreWithMore(t *testing.T, what string, traces []impl.Trace) {
	t.Helper()
	for i := 1; i < len(traces); i++ {
		less, more := traces[i-1], traces[i]
		if len(more.Out) < len(less.Out) || !slices.Equal(more.Out[:len(less.Out)], less.Out) {
			t.Fatalf("with more steps %s tells %v, with fewer it told %v", what, more, less)
		}
		if less.End != impl.TrFuel && !isSameTrace(less, more) {
			t.Fatalf("%s had ended with %v, and tells %v with more steps", what, less, more)
		}
		if more.Text != "" && more.End != impl.TrThrow {
			t.Fatalf("%s tells %v: no other end has a text", what, more)
		}
	}
}

func TestRunWithMoreSteps(t *testing.T) {
	for _, text := range []string{
		`print(1); print(f()); function f() { return 2 * g; } let g = 1; print(3);`, `let g = 1; print(1); print(f()); function f() { return 2 * g; } print(3); throw f() + f();`, `function f() { return f() + 1; } print(0); print(f()); print(1);`,
		`print(1); print(2); print(3 + 4 * (5 - 6)); a = 1;`, `let a = 5; a = a * a; print(a); a = a * a; print(a); a = a * a; print(a); a = a * a; print(a); a = a * a; print(a);`,
	} {
		g, m := linked(t, text), mustParse(t, text, true)
		traces, scripts := []impl.Trace{}, []impl.Trace{}
		for fuel := range 120 {
			traces, scripts = append(traces, impl.Run(g, fuel)), append(scripts, impl.RunScript(m, fuel))
		}
		wantMoreWithMore(t, "Run of "+text, traces)
		wantMoreWithMore(t, "RunScript of "+text, scripts)
		if traces[0].End != impl.TrFuel || traces[119].End == impl.TrFuel || len(traces[119].Out) == 0 {
			t.Errorf("%q tells %v at first and %v at last: that tells too little", text, traces[0], traces[119])
		}
	}
}
