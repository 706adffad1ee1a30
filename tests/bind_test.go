package tests

import (
	"fmt"
	"slices"
	"strings"
	"testing"

	"loop.example/g00777/impl"
)

func found(m int, name string) impl.Bind {
	return impl.Bind{Kind: impl.BiFound, Mod: m, Name: name}
}

var none, many = impl.Bind{}, impl.Bind{Kind: impl.BiMany}

// plainBind gathers all that a question comes to, in no order, and tells how many bindings are among it.
func plainBind(g impl.Graph, m int, name string) impl.Bind {
	type question struct {
		m    int
		name string
	}
	all, binds := []question{{m, name}}, []impl.Bind{}
	ask := func(from int, spec, name string) {
		if q := (question{leadsTo(g, from, spec), name}); !slices.Contains(all, q) {
			all = append(all, q)
		}
	}
	for i := 0; i < len(all); i++ {
		q := all[i]
		own := slices.Contains(exportedBy(g.Mods[q.m]), q.name)
		for _, exp := range g.Mods[q.m].Exps {
			switch {
			case exp.Kind == impl.EpStar && !own && q.name != "default":
				ask(q.m, exp.Spec, q.name)
			case exp.Kind == impl.EpFrom && exp.Name == q.name:
				ask(q.m, exp.Spec, exp.Local)
			case exp.Kind == impl.EpLocal && exp.Name == q.name:
				i := slices.IndexFunc(g.Mods[q.m].Imps, func(i impl.Imp) bool { return i.Local == exp.Local })
				if i >= 0 {
					ask(q.m, g.Mods[q.m].Imps[i].Spec, g.Mods[q.m].Imps[i].From)
				} else if bind := found(q.m, exp.Local); !slices.Contains(binds, bind) {
					binds = append(binds, bind)
				}
			}
		}
	}
	switch len(binds) {
	case 0:
		return none
	case 1:
		return binds[0]
	}
	return many
}

func wantBind(t *testing.T, g impl.Graph, m int, name string, want impl.Bind) {
	t.Helper()
	if got := impl.ResolveExport(g, m, name); got != want {
		t.Errorf("ResolveExport of %q of %d of %s is %v, not %v", name, m, textOf(g), got, want)
	}
	if plain := plainBind(g, m, name); plain != want {
		t.Errorf("the plain bind of %q of %d of %s is %v, not %v", name, m, textOf(g), plain, want)
	}
}

func TestBindConstants(t *testing.T) {
	if kinds := []int{impl.BiNone, impl.BiFound, impl.BiMany}; !slices.Equal(kinds, []int{0, 1, 2}) {
		t.Errorf("the kinds are %v", kinds)
	}
}

func TestResolveExportOfWhatAModuleDeclares(t *testing.T) {
	g := linked(t, `export let x = 1; export function f() { return 1; } let q = 2; export { q as y, q as z, f as g, q }; export default 3; let hidden = 4;`)
	for name, local := range map[string]string{"x": "x", "f": "f", "y": "q", "z": "q", "q": "q", "g": "f", "default": "*default"} {
		wantBind(t, g, 0, name, found(0, local))
	}
	for _, name := range []string{"hidden", "*default", "", "*", "X", "xx", "none", "defaul", "let", "export"} {
		wantBind(t, g, 0, name, none)
	}
	// Default may be a name that is declared, and two names may change places.
	wantBind(t, linked(t, `let x = 1; export { x as default };`), 0, "default", found(0, "x"))
	g = linked(t, `let x = 1; let y = 2; export { x as y, y as x };`)
	wantBind(t, g, 0, "x", found(0, "y"))
	wantBind(t, g, 0, "y", found(0, "x"))
	// The module is told by its number, also where others declare the name.
	g = linked(t, `import "./b"; import "./c"; export let x = 1;`, `export let x = 1;`, `let q = 1; export { q as x };`)
	wantBind(t, g, 0, "x", found(0, "x"))
	wantBind(t, g, 1, "x", found(1, "x"))
	wantBind(t, g, 2, "x", found(2, "q"))
}

func TestResolveExportOfOtherModules(t *testing.T) {
	b := `export let x = 1; let q = 2; export { q as y }; export default 3; export { z } from "./c"; export { default as w, v as none } from "./c"; let hidden = 4;`
	c := `export let z = 1; export default 2; import { x as l } from "./b"; export { l as back };`
	for _, way := range []struct {
		from string
		want impl.Bind
	}{
		{"x", found(1, "x")}, {"y", found(1, "q")}, {"default", found(1, "*default")}, {"z", found(2, "z")}, {"w", found(2, "*default")},
		{"none", none}, {"hidden", none}, {"q", none}, {"nowhere", none},
	} {
		for _, name := range []string{"n", "x", "z", "default"} {
			for _, text := range []string{
				`export { ` + way.from + ` as ` + name + ` } from "./b";`,
				`import { ` + way.from + ` as l } from "./b"; export { l as ` + name + ` };`,
				`export { l as ` + name + ` }; import { ` + way.from + ` as l } from "./b";`,
				// What else stands there, under other names and of other modules, changes nothing.
				`import { y as k } from "./b"; import { ` + way.from + ` as l } from "./b"; export { k as other, l as ` + name + `, l as more }; export * from "./b";`,
			} {
				wantBind(t, linked(t, text, b, c), 0, name, way.want)
			}
		}
	}
	g := linked(t, `import q from "./b"; export { q }; export { back } from "./c";`, b, c)
	wantBind(t, g, 0, "q", found(1, "*default"))
	wantBind(t, g, 0, "back", found(1, "x"))
	wantBind(t, g, 2, "back", found(1, "x"))
	// Its own name in the module there, not the one that it has here.
	g = linked(t, `import { y as x } from "./b"; export { x as y };`, `export let x = 1; export let y = 2;`)
	wantBind(t, g, 0, "y", found(1, "y"))
	wantBind(t, g, 0, "x", none)
	// What is imported alone is not exported.
	g = linked(t, `import { x } from "./b"; import * as n from "./b";`, `export let x = 1;`)
	wantBind(t, g, 0, "x", none)
	wantBind(t, g, 0, "n", none)
}

func TestResolveExportOfLongWays(t *testing.T) {
	// Through all modules there are, by each way in turn, with another name at each.
	ways := []string{`export { N as M } from S;`, `import { N as l } from S; export { l as M };`}
	for first := range ways {
		texts := []string{}
		for m := range impl.MaxFiles - 1 {
			parts := strings.NewReplacer("N", fmt.Sprint("x", m+1), "M", fmt.Sprint("x", m), "S", `"./`+string(rune('b'+m))+`"`)
			texts = append(texts, parts.Replace(ways[(first+m)%2]))
		}
		g := linked(t, append(texts, `let end = 1; export { end as x7 };`)...)
		for m := range g.Mods {
			wantBind(t, g, m, fmt.Sprint("x", m), found(7, "end"))
			wantBind(t, g, m, fmt.Sprint("x", m+1), none)
		}
	}
	// Through one module, by all the names that it may export.
	names := []string{}
	for i := range impl.MaxNames - 1 {
		names = append(names, fmt.Sprintf("x%d as x%d", i+1, i))
	}
	g := linked(t, `export{`+strings.Join(names, ",")+`}from"/a";export let x39=1;`)
	for i := range impl.MaxNames {
		wantBind(t, g, 0, fmt.Sprint("x", i), found(0, "x39"))
	}
	g.Mods[0].Exps[impl.MaxNames-1] = impl.Exp{Kind: impl.EpFrom, Name: "x39", Local: "x0", Spec: "/a"}
	for i := range impl.MaxNames {
		wantBind(t, g, 0, fmt.Sprint("x", i), none)
	}
}

func TestResolveExportByStars(t *testing.T) {
	g := linked(t, `export * from "./b";`, `export * from "./c"; export let x = 1; export default 2;`, `export let y = 1; export default 2; export { z } from "./d";`, `let q = 1; export { q as z }; export let w = 1;`)
	wantBind(t, g, 0, "x", found(1, "x"))
	wantBind(t, g, 0, "y", found(2, "y"))
	wantBind(t, g, 0, "z", found(3, "q"))
	wantBind(t, g, 0, "w", none)
	wantBind(t, g, 0, "q", none)
	// Default is behind no star, but where it is asked of its module by name.
	wantBind(t, g, 0, "default", none)
	wantBind(t, g, 1, "default", found(1, "*default"))
	wantBind(t, g, 3, "default", none)
	g = linked(t, `export * from "./b"; export { default } from "./b"; export { default as n } from "./c";`, `export * from "./c";`, `export default 1;`)
	wantBind(t, g, 0, "default", none)
	wantBind(t, g, 1, "default", none)
	wantBind(t, g, 0, "n", found(2, "*default"))
	g = linked(t, `export { default as x } from "./b"; export { x as default } from "./b";`, `export * from "./c"; export { default } from "./c";`, `export let x = 1; export { x as default };`)
	wantBind(t, g, 0, "x", found(2, "x"))
	wantBind(t, g, 0, "default", found(2, "x"))
	// A star has no name itself.
	for _, name := range []string{"", "*", " ", "x y", "*default", "\x00", "1", "\"", strings.Repeat("x", 1<<16)} {
		for m := range g.Mods {
			wantBind(t, g, m, name, none)
		}
	}
}

func TestResolveExportOfANameOfItsOwnAndByAStar(t *testing.T) {
	for _, stars := range []string{`export * from "./b";`, `export * from "./b"; export * from "./c";`, `export * from "./c"; export * from "./b"; export * from "./a";`} {
		for _, own := range []struct {
			text string
			want impl.Bind
		}{
			{`export let x = 1;`, found(0, "x")}, {`export function x() { return 1; }`, found(0, "x")}, {`let q = 1; export { q as x };`, found(0, "q")},
			{`export { y as x } from "./b";`, found(1, "y")}, {`import { y as q } from "./b"; export { q as x };`, found(1, "y")}, {`export { x } from "./b";`, found(1, "x")}, {`export { x } from "./c";`, found(2, "x")},
			// It counts also where nothing comes of it.
			{`export { none as x } from "./b";`, none}, {`import { none as q } from "./b"; export { q as x };`, none}, {`export { default as x } from "./b";`, none}, {`export { x } from "./a";`, none},
		} {
			for _, text := range []string{own.text + stars, stars + own.text} {
				g := linked(t, `import "./b";`+text, `export let x = 1; export let y = 2; import "./c";`, `export let x = 3;`)
				wantBind(t, g, 0, "x", own.want)
			}
		}
	}
}

func TestResolveExportOfOneBindingByManyWays(t *testing.T) {
	// Each of these has x of /d, however it comes to it.
	ways := []string{
		`export * from "./d";`, `export { x } from "./d";`, `export { y as x } from "./d";`, `export { default as x } from "./d";`, `import { x } from "./d"; export { x };`,
		`import { y as q } from "./d"; export { q as x };`, `import q from "./d"; export { q as x };`, `export * from "./d"; export * from "/d"; export * from "./d";`, `export * from "./a"; export * from "./d";`,
	}
	d := `let q = 1; export { q as x, q as y, q as default };`
	for _, b := range ways {
		for _, c := range ways {
			for _, a := range []string{`export * from "./b"; export * from "./c";`, `export * from "./d"; export * from "./b"; export * from "./c"; export * from "./b";`, `export * from "./b"; export * from "./a"; export * from "./c"; export { x as z } from "./d"; export * from "./d";`} {
				wantBind(t, linked(t, a, b, c, d), 0, "x", found(3, "q"))
				// With one that is another one, at any place, they are many.
				for _, other := range []string{`export * from "./e";` + a, a + `export * from "./e";`} {
					for _, e := range []string{`export let x = 1;`, `export let q = 1; export { q as x };`, `export { r as x } from "./d";`} {
						wantBind(t, linked(t, other, b, c, d+`export let r = 1;`, e), 0, "x", many)
					}
				}
			}
		}
	}
}

func TestResolveExportOfTwoBindings(t *testing.T) {
	stars := `export * from "./b"; export * from "./c";`
	for _, c := range []struct {
		b, c string
		want impl.Bind
	}{
		{`export let x = 1;`, `export let x = 1;`, many}, {`export let x = 1;`, `let q = 1; export { q as x };`, many}, {`export function x() { return 1; }`, `export let x = 1;`, many},
		{`export let x = 1;`, `export let y = 1;`, found(1, "x")}, {`export let y = 1;`, `export let x = 1;`, found(2, "x")}, {`export let x = 1;`, `export { x } from "./b";`, found(1, "x")},
		{`export let x = 1; export let y = 2;`, `export { y as x } from "./b";`, many}, {`export let x = 1; export { x as y };`, `export { y as x } from "./b";`, found(1, "x")},
		{`export let x = 1; export default 2;`, `export { default as x } from "./b";`, many}, {`export let x = 1; export { x as default };`, `export { default as x } from "./b";`, found(1, "x")},
		// What nobody has by one of the ways leaves the other one alone.
		{`export let x = 1;`, `export { none as x } from "./b";`, found(1, "x")}, {`export { none as x } from "./c";`, `export let x = 1;`, found(2, "x")}, {`export { none as x } from "./c";`, `export { none as x } from "./b";`, none},
		{`export let x = 1;`, `import { none } from "./b"; export { none as x };`, found(1, "x")}, {`let x = 1;`, `let x = 2;`, none},
	} {
		c.b, c.c = c.b+`import "./c";`, c.c+`import "./b";`
		wantBind(t, linked(t, stars, c.b, c.c), 0, "x", c.want)
		wantBind(t, linked(t, `import "./b"; export * from "./c"; export * from "./b";`, c.b, c.c), 0, "x", c.want)
	}
	// Two of one module that are unlike in their names alone, and two of one name in two modules.
	g := linked(t, stars+`import "./d";`, `export { y as x } from "./d";`, `export { z as x } from "./d";`, `export let y = 1; export let z = 1;`)
	wantBind(t, g, 0, "x", many)
	g = linked(t, stars, `export { y as x } from "./d";`, `export { y as x } from "./e";`, `export let y = 1;`, `export let y = 1;`)
	wantBind(t, g, 0, "x", many)
}

func TestResolveExportOfMany(t *testing.T) {
	two := `export * from "./c"; export * from "./d";`
	c, d := `export let x = 1;`, `export let x = 2; export let y = 3;`
	for _, a := range []string{
		`export * from "./b";`, `export { x } from "./b";`, `import { x } from "./b"; export { x };`, `import { x as q } from "./b"; export { q as x };`,
		`export * from "./b"; export * from "./c";`, `export * from "./c"; export * from "./b";`, `export * from "./d"; export * from "./b";`, `export * from "./a"; export * from "./b"; export * from "./a";`,
	} {
		g := linked(t, a, two, c, d)
		wantBind(t, g, 0, "x", many)
		wantBind(t, g, 1, "x", many)
		wantBind(t, g, 2, "x", found(2, "x"))
		wantBind(t, g, 3, "x", found(3, "x"))
	}
	// Behind stars and names of others, at any depth; and what is one at one place is no more than one.
	g := linked(t, `export { z as w } from "./b"; export * from "./b";`, `import { x as l } from "./c"; export { l as z };`, `export * from "./d";`, `export * from "./e"; export * from "./f";`, c, d)
	for i, name := range []string{"w", "z", "x", "x"} {
		wantBind(t, g, i, name, many)
	}
	wantBind(t, g, 0, "z", many)
	wantBind(t, g, 0, "x", none)
	wantBind(t, g, 2, "y", found(5, "y"))
	// What was many stays so, whatever is found by the stars behind it.
	for _, a := range []string{`export * from "./b"; export * from "./e";`, `export * from "./e"; export * from "./b";`, `export * from "./b"; export * from "./e"; export * from "./f"; export * from "./b";`} {
		g = linked(t, a+`import "./e"; import "./f";`, two, c, d, `export let x = 3;`, `export let y = 4;`)
		wantBind(t, g, 0, "x", many)
	}
	// Who exports the name itself is asked no further.
	g = linked(t, `export * from "./b";`, two+`export let x = 9;`, c, d)
	wantBind(t, g, 0, "x", found(1, "x"))
	wantBind(t, g, 0, "y", found(3, "y"))
}

func TestResolveExportOfStarsThatGoRound(t *testing.T) {
	self := linked(t, `export * from "./a"; export let x = 1; export * from "/a";`)
	wantBind(t, self, 0, "x", found(0, "x"))
	wantBind(t, self, 0, "none", none)
	wantBind(t, self, 0, "default", none)
	wantBind(t, linked(t, `export * from "./a";`), 0, "x", none)
	for _, order := range []string{`export * from "./a"; export * from "./b"; export * from "./c";`, `export * from "./c"; export * from "./a"; export * from "./b";`, `import "./b"; export * from "./b"; export * from "./c"; export * from "./c"; export * from "./a";`} {
		g := linked(t, order, order, order+`export let x = 1; export default 2;`)
		for m := range g.Mods {
			wantBind(t, g, m, "x", found(2, "x"))
			wantBind(t, g, m, "none", none)
			wantBind(t, g, m, "", none)
		}
		wantBind(t, g, 0, "default", none)
		wantBind(t, g, 1, "default", none)
		wantBind(t, g, 2, "default", found(2, "*default"))
		// Found twice, of two that both come to each other: many for who has none itself.
		g = linked(t, order, order+`export let x = 1;`, order+`export let x = 2;`)
		wantBind(t, g, 0, "x", many)
		wantBind(t, g, 1, "x", found(1, "x"))
		wantBind(t, g, 2, "x", found(2, "x"))
	}
	two := linked(t, `export * from "./b"; export let x = 1;`, `export * from "./a"; export let y = 1;`)
	for m := range 2 {
		wantBind(t, two, m, "x", found(0, "x"))
		wantBind(t, two, m, "y", found(1, "y"))
		wantBind(t, two, m, "z", none)
	}
	three := linked(t, `export * from "./b"; export let x = 1;`, `export * from "./c"; export let x = 2; export let y = 2;`, `export * from "./a"; export { y as z } from "./a";`)
	wantBind(t, three, 0, "x", found(0, "x"))
	wantBind(t, three, 1, "x", found(1, "x"))
	wantBind(t, three, 2, "x", found(0, "x"))
	for m := range 3 {
		wantBind(t, three, m, "y", found(1, "y"))
		wantBind(t, three, m, "z", found(1, "y"))
		wantBind(t, three, m, "none", none)
	}
	// Many, in a ring of which each can be come to from each.
	ring := linked(t, `export * from "./b"; export * from "./d";`, `export * from "./c";`, `export * from "./a"; export * from "./e";`, `export let x = 1;`, `export let x = 2;`)
	for m := range 3 {
		wantBind(t, ring, m, "x", many)
		wantBind(t, ring, m, "y", none)
	}
}

func TestResolveExportOfNamesThatGoRound(t *testing.T) {
	g := linked(t, `export { x } from "./a"; export { y as z, z as y } from "./a"; export { w as v } from "./a"; export let w = 1;`)
	for name, want := range map[string]impl.Bind{"x": none, "y": none, "z": none, "v": found(0, "w"), "w": found(0, "w")} {
		wantBind(t, g, 0, name, want)
	}
	g = linked(t, `import { x } from "./a"; export { x }; import { w as q } from "./a"; export { q as v }; export let w = 1;`)
	for name, want := range map[string]impl.Bind{"x": none, "v": found(0, "w"), "q": none} {
		wantBind(t, g, 0, name, want)
	}
	for _, a := range []string{`export { x } from "./b";`, `import { x } from "./b"; export { x };`, `export * from "./b";`} {
		for _, b := range []string{`export { x } from "./c";`, `import { x } from "./c"; export { x };`, `export * from "./c";`} {
			for _, c := range []string{`export { x } from "./a";`, `import { x } from "./a"; export { x };`, `export * from "./a";`, `export * from "./b";`, `export { x } from "./c";`, `export * from "./c";`} {
				g := linked(t, a, b, c)
				for m := range 3 {
					wantBind(t, g, m, "x", none)
				}
				// Just that name was asked; another one of that module was not.
				g = linked(t, a, b, `export { y as x } from "./a";`)
				g.Mods[0].Exps = append(g.Mods[0].Exps, impl.Exp{Kind: impl.EpFrom, Name: "y", Local: "z", Spec: "./b"})
				g.Mods[1].Exps = append(g.Mods[1].Exps, impl.Exp{Kind: impl.EpFrom, Name: "z", Local: "w", Spec: "./c"})
				g.Mods[2] = mustParse(t, `export { y as x } from "./a"; export let w = 1;`, false)
				for m := range 3 {
					wantBind(t, g, m, "x", found(2, "w"))
				}
			}
		}
	}
}

func TestResolveExportOfWhatWasAskedAlready(t *testing.T) {
	// In the star ahead /d was asked for x, so that /c has nothing to tell; what is found is one.
	stars := `export * from "./b"; export * from "./c";`
	for _, b := range []string{`export * from "./d";`, `export { x } from "./d";`, `import { x } from "./d"; export { x };`, `export * from "./c"; export * from "./d";`} {
		for _, c := range []string{`export * from "./d";`, `export { x } from "./d";`, `import { x } from "./d"; export { x };`, `export * from "./b"; export * from "./d";`} {
			g := linked(t, stars, b, c, `export let x = 1;`)
			for m := range 4 {
				wantBind(t, g, m, "x", found(3, "x"))
			}
			g = linked(t, stars, b, c, `export { y as x } from "./a";`)
			for m := range 4 {
				wantBind(t, g, m, "x", none)
			}
			// From /d it goes back to where it came from, by another name.
			g = linked(t, stars+`export let y = 1;`, b, c, `export { y as x } from "./a";`)
			for m := range 4 {
				wantBind(t, g, m, "x", found(0, "y"))
			}
			g = linked(t, stars, b, c, `export * from "./e"; export * from "./f";`, `export let x = 1;`, `export let x = 2;`)
			for m := range 4 {
				wantBind(t, g, m, "x", many)
			}
		}
	}
	// /c is asked in the star ahead, from where it comes to nothing but /b, which is being asked; what /b has elsewhere is found all the same.
	g := linked(t, stars, `export * from "./c"; export * from "./d";`, `export * from "./b";`, `export let x = 1;`)
	for m := range 4 {
		wantBind(t, g, m, "x", found(3, "x"))
	}
	// What stands behind in /c is asked but once, too, and makes two.
	g = linked(t, stars, `export * from "./c"; export * from "./d";`, `export * from "./b"; export * from "./e";`, `export let x = 1;`, `export let x = 2;`)
	for m := range 3 {
		wantBind(t, g, m, "x", many)
	}
	// Of one module two names may be asked, and each of them once more under another one.
	g = linked(t, stars, `export { y as x } from "./d";`, `export { z as x } from "./d";`, `export { z as y } from "./d"; export let z = 1;`)
	wantBind(t, g, 0, "x", found(3, "z"))
	g = linked(t, stars, `export { y as x } from "./d";`, `export { z as x } from "./d";`, `export { z as y } from "./d"; export { y as z } from "./d";`)
	wantBind(t, g, 0, "x", none)
}

func TestResolveExportEndsSoon(t *testing.T) {
	g := fullStars(t, "x", "y", "x")
	for m := range g.Mods {
		wantBind(t, g, m, "y", found(1, "y"))
		wantBind(t, g, m, "none", none)
		want := many
		if m == 0 || m == 2 {
			want = found(m, "x")
		}
		wantBind(t, g, m, "x", want)
	}
	g = fullStars(t)
	wantBind(t, g, 0, "x", none)
}
