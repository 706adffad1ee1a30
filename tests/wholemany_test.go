package tests

import (
	"fmt"
	"math"
	"math/rand"
	"slices"
	"strings"
	"testing"

	"loop.example/g00777/impl"
)

// fuelsOf are the numbers of steps up to some more than a course wants, or than most, and odd ones.
func fuelsOf(c course, most int) []int {
	return append(firstFuels(min(c.at+3, most)), append(oddFuels(), c.at-1, c.at, c.at+1)...)
}

// wantWay holds Whole and Bundled of any files against the plain rules, and RunText of Bundled against Whole; it tells how that ends, and a fault as 10 and its kind.
func wantWay(t *testing.T, files []impl.File, entry string, most int) int {
	t.Helper()
	text, f := impl.Bundled(files, entry)
	g, fault := plainLoad(files, entry)
	if fault == (impl.Fault{}) {
		fault = plainLinkFault(g)
	}
	if fault != (impl.Fault{}) {
		wantError(t, files, entry, fault.Kind, fault.Path, fault.At)
		return 10 + fault.Kind
	}
	c := plainCourse(g, false)
	for _, fuel := range fuelsOf(c, most) {
		want := plainWritten(c.with(fuel))
		if got := impl.Whole(files, entry, fuel); got != want {
			t.Fatalf("with %d steps Whole(%q, %q) is %q, not %q", fuel, files, entry, got, want)
		}
		if f != (impl.Fault{}) {
			continue
		}
		if got := impl.RunText(text, fuel); got != want {
			t.Fatalf("with %d steps RunText of %q is %q, not %q as Whole(%q, %q)", fuel, text, got, want, files, entry)
		}
	}
	if want := plainBundleFault(g); f != want {
		t.Fatalf("Bundled(%q, %q) tells %v, not %v", files, entry, f, want)
	}
	if f != (impl.Fault{}) {
		if text != "" {
			t.Fatalf("Bundled(%q, %q) is %q, beside %v", files, entry, text, f)
		}
		return 10 + f.Kind
	}
	if want := impl.Print(plainBundle(t, g), true); text != want {
		t.Fatalf("Bundled(%q, %q) is %q, not %q", files, entry, text, want)
	}
	return c.with(impl.MaxFuel).End
}

// wantTextOf holds RunText of any text against the plain rules; it tells how that ends, and a fault as 10 and its kind.
func wantTextOf(t *testing.T, s string, most int) int {
	t.Helper()
	m, bad := impl.Parse(s, true)
	fault := impl.Fault{}
	if bad != -1 {
		fault = impl.Fault{Kind: impl.FaSyntax, At: bad}
	} else if code := plainEarly(m); code != impl.EaOk {
		fault = impl.Fault{Kind: impl.FaEarly, At: code}
	}
	if fault != (impl.Fault{}) {
		wantText(t, s, plainError(fault), append(oddFuels(), 0, 1, 50)...)
		return 10 + fault.Kind
	}
	c := plainCourse(scriptGraph(m), true)
	for _, fuel := range fuelsOf(c, most) {
		wantText(t, s, plainWritten(c.with(fuel)), fuel)
	}
	return c.with(impl.MaxFuel).End
}

func TestWholeRunsEachModuleOnce(t *testing.T) {
	choices := choicesOf([]string{"./a", "./b", "./c"})
	paths := []string{"/a", "/b", "/c"}
	for i, a := range choices {
		for j, b := range choices {
			for k, c := range choices {
				// They are many: a third of them.
				if (i+j+k)%3 != 0 {
					continue
				}
				files := filesOfTexts(asking(a...)+`print(0);`, asking(b...)+`print(1);`, asking(c...)+`print(2);`)
				g := mustLoad(t, files, "/a")
				want, printed := "", map[string]int{}
				for _, m := range plainOrder(g) {
					want += fmt.Sprintln(slices.Index(paths, g.Paths[m]))
				}
				wantWhole(t, files, "/a", 50, want+"done\n")
				for at, line := range strings.Fields(strings.TrimSuffix(impl.Whole(files, "/a", 50), "done\n")) {
					if _, again := printed[paths[line[0]-'0']]; again {
						t.Fatalf("%q runs twice in %v", line, files)
					}
					printed[paths[line[0]-'0']] = at
				}
				// Each is behind all that it asks for, unless these ask for it in turn.
				comes := comesTo(g)
				for _, link := range g.Links {
					if printed[g.Paths[link.To]] > printed[g.Paths[link.From]] && !comes[link.To][link.From] {
						t.Fatalf("%v runs ahead of what it asks for in %v", link, files)
					}
				}
			}
		}
	}
}

func TestWholeOfImportsThatChange(t *testing.T) {
	for what, w := range waysToX() {
		t.Run(what, func(t *testing.T) {
			files := func(w way, b string) []impl.File {
				text := strings.ReplaceAll(`export function get() { return E; } print(get()); print(E);`, "E", w.read)
				return filesOfTexts(asking("./b", "./c", "./d")+w.imports+text, `import { get } from "./a";`+b, w.c, w.d)
			}
			exports := `export { x, x as default };`
			wantWayCourse(t, files(w, exports+`let x = 1; print(get()); x = 2; print(get()); x = get() + 1; print(get()); x = f; print(get()); function f() { return 8; }`), "/a", `5:1 10:2 18:3 23:function 28:function 30:function 30:done`)
			wantWayCourse(t, files(w, exports+`print(0); print(get()); let x = 1;`), "/a", `2:0 5:ref`)
			wantWayCourse(t, files(w, exports+`print(get()); x = 5; print(get()); function x() { return 1; } print(get());`), "/a", `3:function 8:5 12:5 16:5 18:5 18:done`)
			called := w
			called.read += `()`
			wantWayCourse(t, files(called, exports+`function x() { return 1; } print(get()); x = 3; print(0); print(get());`), "/a", `5:1 9:0 12:type`)
			if !strings.Contains(w.read, ".") {
				written := w
				written.imports += `print(0);` + w.read + ` = 5;`
				wantWayCourse(t, files(written, exports+`let x = 1; print(1);`), "/a", `4:1 6:0 8:type`)
			}
		})
	}
}

func TestWholeOfOneBindingByManyWays(t *testing.T) {
	b, c, d := `export * from "./c"; export * from "./d"; export let own = 1;`, `export let x = 1; export function f() { return x; } x = 2;`, `export * from "./c";`
	for _, text := range []string{`import { x } from "./b"; import { f } from "./d"; print(x); print(f());`, `import * as n from "./b"; print(n.x); print(n.f());`, `export * from "./b"; export * from "./d"; import { x, f } from "./a"; print(x); print(f());`, `export { x as z } from "./b"; import { z } from "./a"; import * as n from "./d"; print(z); print(n.f());`} {
		wantWayCourse(t, filesOfTexts(text, b, c, d), "/a", `9:2 12:2 12:done`)
	}
	// One name of two bindings is none that may be imported, and undefined of a space.
	d = `export let x = 4;`
	wantError(t, filesOfTexts(`print(0); import { x } from "./b";`, b, c, d), "/a", impl.FaLink, "/a", 100)
	wantError(t, filesOfTexts(`print(0); export { x as y } from "./b";`, b, c, d), "/a", impl.FaLink, "/a", 0)
	wantWhole(t, filesOfTexts(`import * as n from "./b"; print(n.x); print(n.f());`, b, c, d), "/a", 50, "undefined\n2\ndone\n")
}

func TestWholeOfNamesAheadOfTheirPlace(t *testing.T) {
	a := `import "./b"; export let y = 3; export function f() { return 5; } export function g() { return y; } export default 7; print(y);`
	for _, c := range []twin{
		{`import { y } from "./a"; print(1); print(y);`, `2:1 4:ref`}, {`import y from "./a"; print(1); print(y);`, `2:1 4:ref`}, {`import * as n from "./a"; print(1); print(n.y);`, `2:1 4:ref`}, {`import * as n from "./a"; print(1); print(n.default());`, `2:1 4:ref`},
		{`import { f } from "./a"; print(f); print(f());`, `2:function 5:5 13:3 13:done`}, {`import { g } from "./a"; print(g); print(g());`, `2:function 5:ref`}, {`import { y } from "./a"; print(1); y = 2;`, `2:1 4:type`}, {`import { y } from "./a"; function h() { return y; } print(h);`, `3:function 11:3 11:done`},
	} {
		wantWayCourse(t, filesOfTexts(a, c.text), "/a", c.course)
	}
	// From /b on it is the other way round.
	wantWayCourse(t, filesOfTexts(a, `import { y } from "./a"; print(1); print(y);`), "/b", `8:3 10:1 12:3 12:done`)
}

func TestWholeOfEachExpression(t *testing.T) {
	for _, s := range sides() {
		for _, form := range []string{`print(E);`, `throw E;`, `let v = E; print(v);`, `one = 1 + E;`, `none = E;`} {
			text := endsAhead + strings.ReplaceAll(form, "E", s.text) + endsBehind
			wantWay(t, filesOfTexts(text, `export let x = 3; export function g() { return 4; }`), "/a", math.MaxInt)
		}
	}
}

func TestWholeOfManyFiles(t *testing.T) {
	k := &runMaker{Rand: rand.New(rand.NewSource(20))}
	ends := map[int]int{}
	for i := range 400 {
		files := k.files(1 + i%impl.MaxFiles)
		most := 12
		if i%9 == 0 {
			most = 1000
		}
		// Any one of them may be the first.
		for _, entry := range []string{"/a", files[k.Intn(len(files))].Path} {
			ends[wantWay(t, files, entry, most)]++
		}
	}
	wantEnds(t, ends, 20, impl.TrDone, impl.TrThrow, impl.TrRef, impl.TrType, impl.TrRange, 10+impl.FaLink)
}

func TestWholeOfManyFilesThatAreGreat(t *testing.T) {
	k := &runMaker{Rand: rand.New(rand.NewSource(21))}
	ends := map[int]int{}
	for i := range 200 {
		files := k.files(2 + i%4)
		for j := range files {
			files[j].Text += strings.Repeat(`print(7);`, k.Intn(120/len(files)))
		}
		ends[wantWay(t, files, "/a", 5)]++
	}
	wantEnds(t, ends, 10, impl.TrDone, impl.TrRef, 10+impl.FaBig)
}

func TestWholeOfManyFaults(t *testing.T) {
	r := rand.New(rand.NewSource(22))
	ends := map[int]int{}
	for range 1500 {
		files := someFiles(r, true)
		ends[wantWay(t, files, files[r.Intn(len(files))].Path, 8)]++
	}
	wantEnds(t, ends, 20, impl.TrDone, 10+impl.FaMissing, 10+impl.FaSyntax, 10+impl.FaEarly, 10+impl.FaPath)
}

func TestWholeOfManyModules(t *testing.T) {
	k := newMaker(false)
	ends := map[int]int{}
	for range 1500 {
		files := []string{}
		for _, path := range []string{"/a", "/b", "/lib/x", "/lib/y", "/x"} {
			_, text := k.make()
			files = append(files, path, text)
		}
		ends[wantWay(t, filesOf(files...), "/a", 8)]++
	}
	wantEnds(t, ends, 10, impl.TrDone, impl.TrRef, 10+impl.FaMissing, 10+impl.FaEarly, 10+impl.FaLink)
}

// meddleText puts odd bytes into a text, takes some away, or has a statement more stand at its end.
func meddleText(r *rand.Rand, s string) string {
	pieces := []string{"", "", " ", " ", "\n", "//\n", ";", "(", ")", "1", "0", "7", "a", "x", "$", "let ", "n.", "\"", "/", "\x00", "\xff", "\\", "print(1);"}
	statements := []string{"print(1);", "throw 2;", "x = 1;", "let x = 1;", "let hidden = 1;", "export { x };", "import \"./b\";", "import { x } from \"./b\";", "print(n.x);", "fail 3;", "print(none);", "let z = 1; print(z());"}
	if r.Intn(2) == 0 {
		return s + statements[r.Intn(len(statements))]
	}
	at := r.Intn(len(s) + 1)
	end := min(len(s), at+max(0, r.Intn(5)-2))
	return s[:at] + pieces[r.Intn(len(pieces))] + s[end:]
}

func TestWholeOfMeddledFiles(t *testing.T) {
	k := &runMaker{Rand: rand.New(rand.NewSource(23))}
	ends := map[int]int{}
	for i := range 2000 {
		files, entry := k.files(1+i%impl.MaxFiles), "/a"
		for range 1 + k.Intn(3) {
			j := k.Intn(len(files))
			switch k.Intn(40) {
			case 0:
				files[j].Path = meddleText(k.Rand, files[j].Path)
			case 1:
				files[j] = files[k.Intn(len(files))]
			case 2:
				entry = meddleText(k.Rand, entry)
			case 3:
				files[0], files[j] = files[j], files[0]
			default:
				files[j].Text = meddleText(k.Rand, files[j].Text)
			}
		}
		ends[wantWay(t, files, entry, 5)]++
	}
	wantEnds(t, ends, 10, impl.TrDone, impl.TrThrow, impl.TrRef, impl.TrType, 10+impl.FaMissing, 10+impl.FaSyntax, 10+impl.FaEarly, 10+impl.FaLink)
}

func TestRunTextOfManyTexts(t *testing.T) {
	k := newMaker(true)
	ends := map[int]int{}
	for range 4000 {
		_, text := k.make()
		ends[wantTextOf(t, text, 20)]++
		for range 1 + k.Intn(3) {
			text = meddleText(k.Rand, text)
		}
		ends[wantTextOf(t, text, 5)]++
	}
	for _, text := range lexTexts(3) {
		ends[wantTextOf(t, text, 5)]++
		ends[wantTextOf(t, `print(1);`+text, 5)]++
	}
	for range 2000 {
		b := make([]byte, k.Intn(12))
		k.Read(b)
		ends[wantTextOf(t, string(b), 5)]++
	}
	wantEnds(t, ends, 50, impl.TrDone, impl.TrThrow, impl.TrRef, impl.TrType, 10+impl.FaSyntax, 10+impl.FaEarly)
}

// wantOwnText asks that a text shares no memory with any of the others.
func wantOwnText(t *testing.T, text string, others ...string) {
	t.Helper()
	for _, other := range others {
		if sharesMemory(text, other) {
			t.Errorf("%q shares memory with %q", text, other)
		}
	}
}

func TestTextsOfTheWholeWayAreNewMemory(t *testing.T) {
	files := filesOf("/aa", `print(1); throw done;`, "/bb", `done;`, "/cc", `let done = 1; let done = 2;`, "/dd", asking("XX"), "/ee", asking("/qq"), "/ff", `import { done } from "/aa";`, "/gg", asking("./aa")+strings.Repeat(`print(1);`, impl.MaxStmts), "/hh", ``)
	args := []string{}
	for i := range files {
		files[i] = impl.File{Path: strings.Clone(files[i].Path), Text: strings.Clone(files[i].Text)}
		args = append(args, files[i].Path, files[i].Text)
	}
	for _, path := range []string{"/aa", "/bb", "/cc", "/dd", "/ee", "/ff", "/gg", "/hh", "/ii", "no path"} {
		entry := strings.Clone(path)
		first, second := impl.Whole(files, entry, 50), impl.Whole(files, entry, 50)
		text, f := impl.Bundled(files, entry)
		again, _ := impl.Bundled(files, entry)
		if first != second || text != again || f != (impl.Fault{}) && f.Path == "" {
			t.Errorf("Whole is %q and %q, Bundled is %q and %q, and %v", first, second, text, again, f)
		}
		wantOwnText(t, first, append(args, entry, second, text, f.Path)...)
		wantOwnText(t, text, append(args, entry, again, f.Path)...)
		wantOwnText(t, f.Path, append(args, entry)...)
	}
	for _, s := range []string{``, `print(1); throw 2;`, `done`, `let a = 1; let a = 2;`, "error 2  6\n"} {
		s = strings.Clone(s)
		first, second := impl.RunText(s, 50), impl.RunText(s, 50)
		if first != second {
			t.Errorf("RunText of %q is %q and %q", s, first, second)
		}
		wantOwnText(t, first, s, second)
	}
}

func TestTheWholeWayDoesNotWriteIntoFiles(t *testing.T) {
	r := &runMaker{Rand: rand.New(rand.NewSource(24))}
	for i := range 300 {
		files := someFiles(r.Rand, true)
		if i%2 == 0 {
			files = r.files(1 + i%impl.MaxFiles)
		}
		if i%3 == 0 {
			slices.Reverse(files)
		}
		spare := append(slices.Clone(files), impl.File{Path: "/zz", Text: "spare"})
		for _, entry := range []string{files[0].Path, "/zz", "/q"} {
			impl.Whole(spare[:len(files)], entry, 50)
			impl.Bundled(spare[:len(files)], entry)
		}
		if !slices.Equal(spare[:len(files)], files) || spare[len(files)] != (impl.File{Path: "/zz", Text: "spare"}) {
			t.Fatalf("the files were %v and are %v", files, spare)
		}
	}
}
