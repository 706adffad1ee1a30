package tests

import (
	"strings"
	"testing"

	"loop.example/g00777/impl"
)

// way is how /a comes to the x of /b, and how it reads it; /c and /d may stand between.
type way struct{ imports, read, c, d string }

func waysToX() map[string]way {
	return map[string]way{
		"by its name":                        {`import { x } from "./b";`, `x`, ``, ``},
		"by another name":                    {`import { x as q } from "./b";`, `q`, ``, ``},
		"by default":                         {`import q from "./b";`, `q`, ``, ``},
		"by default in a list":               {`import { default as q } from "./b";`, `q`, ``, ``},
		"of a space":                         {`import * as n from "./b";`, `n.x`, ``, ``},
		"of a space, by default":             {`import * as n from "./b";`, `n.default`, ``, ``},
		"by a star":                          {`import { x } from "./c";`, `x`, `export * from "./b";`, ``},
		"by a star, by another name":         {`import { x as q } from "./c";`, `q`, `export * from "./b";`, ``},
		"of a space, by a star":              {`import * as n from "./c";`, `n.x`, `export * from "./b";`, ``},
		"by two stars":                       {`import { x } from "./d";`, `x`, `export * from "./b";`, `export * from "./c";`},
		"by a star of its own":               {`import { x } from "./a"; export * from "./b";`, `x`, ``, ``},
		"by an import that is exported on":   {`import { y } from "./c";`, `y`, `import { x as l } from "./b"; export { l as y };`, ``},
		"by two that are exported on":        {`import { z } from "./d";`, `z`, `import { x } from "./b"; export { x as y };`, `import { y as x } from "./c"; export { x as z };`},
		"by an import, on by default":        {`import q from "./c";`, `q`, `import l from "./b"; export { l as default };`, ``},
		"by an export from":                  {`import { y as x } from "./c";`, `x`, `export { x as y } from "./b";`, ``},
		"by an export from, of default":      {`import { y as x } from "./c";`, `x`, `export { default as y } from "./b";`, ``},
		"by an export of its own from":       {`import { y } from "./a"; export { x as y } from "./b";`, `y`, ``, ``},
		"of a space, exported on":            {`import * as n from "./c";`, `n.y`, `import { x } from "./b"; export { x as y };`, ``},
		"of a space, exported on, by a star": {`import * as n from "./d";`, `n.y`, `export { x as y } from "./b";`, `export * from "./c";`},
		"of a space, by default from":        {`import * as n from "./c";`, `n.default`, `export { x as default } from "./b";`, ``},
	}
}

// wayGraph is of /a, which reads x on a way, and of /b, which declares it and asks what /a reads by get of /a; none of the others costs a step.
func wayGraph(t *testing.T, w way, b string) impl.Graph {
	t.Helper()
	text := strings.ReplaceAll(`export function get() { return E; } print(get()); print(E);`, "E", w.read)
	return linked(t, asking("./b", "./c", "./d")+w.imports+text, `import { get } from "./a";`+b, w.c, w.d)
}

func TestRunOfImportsThatChange(t *testing.T) {
	for what, w := range waysToX() {
		t.Run(what, func(t *testing.T) {
			exports := `export { x, x as default };`
			wantGraphCourse(t, wayGraph(t, w, exports+`let x = 1; print(get()); x = 2; print(get()); x = get() + 1; print(get()); x = f; print(get()); function f() { return 8; }`), `5:1 10:2 18:3 23:function 28:function 30:function 30:done`)
			// Ahead of its place it is not there, and what was printed stays.
			wantGraphCourse(t, wayGraph(t, w, exports+`print(0); print(get()); let x = 1;`), `2:0 5:ref`)
			wantGraphCourse(t, wayGraph(t, w, exports+`let y = get; let x = get();`), `5:ref`)
			// Whoever keeps what it was keeps that.
			wantGraphCourse(t, wayGraph(t, w, exports+`let x = 1; let y = get(); x = 2; print(y); print(get()); let z = get; x = 3; print(z());`), `9:1 12:2 19:3 23:3 25:3 25:done`)
			// A function is there from the beginning, and is written like any other.
			wantGraphCourse(t, wayGraph(t, w, exports+`print(get()); x = 5; print(get()); function x() { return 1; } print(get());`), `3:function 8:5 12:5 16:5 18:5 18:done`)
			called := w
			called.read += `()`
			wantGraphCourse(t, wayGraph(t, called, exports+`function x() { return 1; } print(get()); x = y; print(get()); function y() { return z; } let z = 2;`), `5:1 11:ref`)
			wantGraphCourse(t, wayGraph(t, called, exports+`let z = 2; function x() { return 1; } print(get()); x = y; print(get()); function y() { return z; } z = 4; print(get()); x = 3; print(0); print(get());`), `7:1 13:2 20:4 24:0 27:type`)
			wantGraphCourse(t, wayGraph(t, called, exports+`print(0); print(get()); let x = 1;`), `2:0 5:ref`)
		})
	}
}

func TestRunOfOneBindingByAllWays(t *testing.T) {
	// All read one cell, whoever wrote it last.
	a := `import { x } from "./b"; import q from "./b"; import * as n from "./b"; import { y } from "./c"; import { x as s } from "./d"; import * as m from "./d"; export function all() { return x * 100000 + q * 10000 + n.x * 1000 + y * 100 + s * 10 + m.x; } print(all());`
	b := `import { all } from "./a"; export let x = 1; export { x as default }; print(all()); x = 2; print(all()); x = x + 1; print(all());`
	wantGraphCourse(t, linked(t, a, b, `import { x } from "./b"; export { x as y };`, `export * from "./b";`), `25:111111 50:222222 77:333333 101:333333 101:done`)
}

func TestRunOfFunctionsInTheirOwnModule(t *testing.T) {
	// Whoever calls a function, it reads what its own module has.
	b := `export let x = 1; let hidden = 2; export function f() { return x * 10 + hidden; } export function g() { return q(); } import { q } from "./a"; x = 3;`
	a := `import { f, g } from "./b"; import * as n from "./b"; let x = 7; let hidden = 8; export function q() { return hidden + x; } print(f()); print(n.f()); let h = f; print(h()); print(q()); print(g()); print(x);`
	// /b costs eight steps, and all up to q five more.
	wantGraphCourse(t, linked(t, a, b), `20:32 27:32 36:32 41:15 47:15 49:7 49:done`)
	// It is told by its own module also where it was handed on by a value, or by default.
	wantGraphCourse(t, linked(t, `import { keep } from "./b"; import d from "./b"; let x = 5; print(keep()); print(d()); let get = keep; x = 6; print(get());`, `import { give } from "./c"; export let keep = give(); export default keep; let x = 2;`, `let x = 1; function get() { return x; } export function give() { return get; } x = 9;`), `18:9 21:9 28:9 28:done`)
	// What it does not declare it does not find with who calls it.
	wantGraphCourse(t, linked(t, `import { f } from "./b"; let own = 1; print(own); print(f());`, `export function f() { return own; }`), `5:1 8:ref`)
}

func TestRunOfNamesThatManyHave(t *testing.T) {
	// Of a space, a name that is many is as one that is nowhere, also while one of them is not set yet.
	g := linked(t, `import * as n from "./b"; print(n.x); print(n.y); print(n.z); print(n.w); print(n.default);`, `export * from "./c"; export * from "./d"; print(1);`, `export let x = 1; export let y = 2; export default 3;`, `export let x = 4; export let z = 5; import { none } from "./c";`)
	if got := impl.Run(g, 100); !isSameTrace(got, impl.Trace{End: impl.TrRef}) {
		t.Errorf("Run of what does not link tells %v", got)
	}
	g = linked(t, `import * as n from "./b"; print(n.x); print(n.y); print(n.z); print(n.w); print(n.default);`, `export * from "./c"; export * from "./d"; print(1);`, `export let x = 1; export let y = 2; export default 3;`, `export let x = 4; export let z = 5;`)
	wantGraphCourse(t, g, `12:1 14:undefined 16:2 18:5 20:undefined 22:undefined 22:done`)
	// One binding that comes by two ways is that.
	g = linked(t, `import * as n from "./b"; print(n.x); print(n.f());`, `export * from "./c"; export * from "./d";`, `export let x = 1; export function f() { return x; } x = 2;`, `export * from "./c";`)
	wantGraphCourse(t, g, `7:2 10:2 10:done`)
	// Where it leads counts, not what its spec would name.
	g = linked(t, `import { x } from "./b"; import * as n from "./c"; print(x); print(n.x);`, `export let x = 1;`, `export let x = 2;`)
	g.Links[0].To, g.Links[1].To = 2, 1
	wantGraphCourse(t, g, `6:2 8:1 8:done`)
}
