package tests

import (
	"fmt"
	"math"
	"slices"
	"strings"
	"testing"

	"loop.example/g00777/impl"
)

// plainWritten is a trace as a text.
func plainWritten(trace impl.Trace) string {
	ends := []string{"done", "throw " + trace.Text, "reference", "type", "range", "fuel"}
	return strings.Join(slices.Concat(trace.Out, ends[trace.End:trace.End+1], []string{""}), "\n")
}

func plainError(f impl.Fault) string {
	return fmt.Sprintf("error %d %s %d\n", f.Kind, f.Path, f.At)
}

// isError tells whether a text is that of a fault; no value and no end begins so.
func isError(text string) bool {
	return strings.HasPrefix(text, "error ")
}

// wantWhole asks for a text of Whole, and that what Bundled tells goes with it.
func wantWhole(t *testing.T, files []impl.File, entry string, fuel int, want string) {
	t.Helper()
	got := impl.Whole(files, entry, fuel)
	if got != want {
		t.Errorf("Whole(%.400s, %.60q, %d) is %q, not %q", fmt.Sprint(files), entry, fuel, got, want)
	}
	text, f := impl.Bundled(files, entry)
	switch {
	case f != (impl.Fault{}) && text != "":
		t.Errorf("Bundled(%.400s, %.60q) is %q, beside %v", fmt.Sprint(files), entry, text, f)
	case isError(got) && plainError(f) != got:
		t.Errorf("Whole(%.400s, %.60q, %d) is %q, and Bundled tells %v", fmt.Sprint(files), entry, fuel, got, f)
	case !isError(got) && f != (impl.Fault{}) && f.Kind != impl.FaBig:
		t.Errorf("Whole(%.400s, %.60q, %d) is %q, but Bundled tells %v", fmt.Sprint(files), entry, fuel, got, f)
	case f == (impl.Fault{}) && impl.RunText(text, fuel) != got:
		t.Errorf("Whole(%.400s, %.60q, %d) is %q, and RunText of Bundled %q", fmt.Sprint(files), entry, fuel, got, impl.RunText(text, fuel))
	}
}

// wantError asks for a fault of Whole, with each number of steps, and of Bundled.
func wantError(t *testing.T, files []impl.File, entry string, kind int, path string, at int) {
	t.Helper()
	want := impl.Fault{Kind: kind, Path: path, At: at}
	for _, fuel := range append(oddFuels(), 0, 1, 50) {
		wantWhole(t, files, entry, fuel, fmt.Sprint("error ", kind, " ", path, " ", at, "\n"))
	}
	if text, f := impl.Bundled(files, entry); text != "" || f != want {
		t.Errorf("Bundled(%.400s, %.60q) is %q and %v, not %v", fmt.Sprint(files), entry, text, f, want)
	}
}

// wantWayCourse asks for a course of Whole and of RunText of Bundled, with each number of steps.
func wantWayCourse(t *testing.T, files []impl.File, entry, text string) {
	t.Helper()
	c := courseOf(text)
	fuels := append(firstFuels(c.at+3), oddFuels()...)
	for _, fuel := range fuels {
		wantWhole(t, files, entry, fuel, plainWritten(c.with(fuel)))
	}
	wantWrittenMore(t, fmt.Sprint(files), func(fuel int) string { return impl.Whole(files, entry, fuel) }, c.at+3)
}

// wantWrittenMore asks that with each step more the same is printed, and more at most, and that what had ended ends alike.
func wantWrittenMore(t *testing.T, what string, run func(fuel int) string, most int) {
	t.Helper()
	less := run(-1)
	for fuel := range most {
		more := run(fuel)
		printed, isFuel := strings.CutSuffix(less, "fuel\n")
		if isFuel && !strings.HasPrefix(more, printed) || !isFuel && more != less {
			t.Fatalf("with %d steps %.400s tells %q, with one less it told %q", fuel, what, more, less)
		}
		less = more
	}
}

// filesOfTexts stand at /a, /b and so on.
func filesOfTexts(texts ...string) []impl.File {
	files := []impl.File{}
	for i, text := range texts {
		files = append(files, impl.File{Path: "/" + string(rune('a'+i)), Text: text})
	}
	return files
}

// endings are statements with the line that they end a program with; each is a script, too.
func endings() []twin {
	return []twin{
		{``, "done"}, {`let a = 1;`, "done"}, {`function f() { return none; }`, "done"}, {`let a = 1; a = a * 2;`, "done"}, {`// print(1);`, "done"},
		{`throw 7;`, "throw 7"}, {`throw 0;`, "throw 0"}, {`throw 3 - 5;`, "throw -2"}, {`throw 1000000;`, "throw 1000000"}, {`throw 0 - 1000 * 1000;`, "throw -1000000"}, {`let a = 4; throw a * a;`, "throw 16"},
		{`throw f; function f() { return 1; }`, "throw function"}, {`throw f(); function f() { return 1; }`, "throw 1"}, {`throw f(); function f() { return f; }`, "throw function"},
		{`let q = none;`, "reference"}, {`throw none;`, "reference"}, {`throw none();`, "reference"}, {`none = 1;`, "reference"}, {`throw a; let a = 1;`, "reference"}, {`a = 1; let a = 2;`, "reference"}, {`let a = a;`, "reference"},
		{`let a = 1; throw a();`, "type"}, {`function f() { return 1; } throw f + 1;`, "type"}, {`function f() { return 1; } throw 1 * f;`, "type"},
		{`throw 1000000 + 1;`, "range"}, {`let a = 1001 * 1000;`, "range"}, {`throw 0 - 1000000 - 1;`, "range"}, {`function f() { return f(); } throw f();`, "range"},
		{`function f() { return f() + f(); } throw 1 * f();`, "range"},
	}
}

// aheads are statements that print, with what they print; none of their names is one of endings.
func aheads() []twin {
	return []twin{{``, ``}, {`print(1);`, "1\n"}, {`print(0 - 12); print(p); function p() { return 3; } print(p() * p());`, "-12\nfunction\n9\n"}, {strings.Repeat(`print(8);`, 12), strings.Repeat("8\n", 12)}}
}

func TestWholeOfEachEnd(t *testing.T) {
	for _, ahead := range aheads() {
		for _, c := range endings() {
			text, want := ahead.text+c.text, ahead.course+c.course+"\n"
			wantWhole(t, filesOfTexts(text), "/a", 1000, want)
			// What ends one module ends all that would run behind it; one that is done is done with all.
			all := want
			if c.course == "done" {
				all = ahead.course + "9\ndone\n"
			}
			wantWhole(t, filesOfTexts(asking("./b")+`print(9);`, text), "/a", 1000, all)
			wantWhole(t, filesOfTexts(asking("./b")+text, `print(9);`), "/a", 1000, "9\n"+want)
			wantWhole(t, filesOfTexts(asking("./b")+text, `print(9);`), "/b", 1000, "9\ndone\n")
			if got := impl.RunText(text, 1000); got != want {
				t.Errorf("RunText of %q is %q, not %q", text, got, want)
			}
		}
	}
}

func TestWholeOfEndsOfModules(t *testing.T) {
	b := `export let x = 3; export function f() { return x; } export default f;`
	for _, c := range []twin{
		{`import * as n from "./b"; throw n.none;`, "throw undefined\n"}, {`import * as n from "./b"; print(n.none); print(n.f); print(n.x); print(n.default());`, "undefined\nfunction\n3\n3\ndone\n"}, {`import * as n from "./b"; print(n.x); throw n.none();`, "3\ntype\n"}, {`import * as n from "./b"; throw n.x - n.none;`, "type\n"},
		{`import { x } from "./b"; print(x); x = 4; print(x);`, "3\ntype\n"}, {`import f from "./b"; print(f()); f = f;`, "3\ntype\n"}, {`import { x as y } from "./b"; print(y); print(x);`, "3\nreference\n"}, {`import f from "./b"; throw f;`, "throw function\n"}, {`import f from "./b"; throw f() - 4;`, "throw -1\n"},
		{`import { x } from "./b"; throw x * 1000000;`, "range\n"}, {`export default later; let later = 1;`, "reference\n"}, {`let undef = 1; throw undef;`, "throw 1\n"}, {`throw undef;`, "reference\n"}, {`let fail = 5; fail = fail + 1; print(fail);`, "6\ndone\n"},
	} {
		wantWhole(t, filesOfTexts(c.text, b), "/a", 1000, c.course)
	}
}

func TestWholeWithEachNumberOfSteps(t *testing.T) {
	files := filesOfTexts(`import { v, f } from "./b"; print(v); print(f() + 1); throw v;`, `export let v = 6; export function f() { return v; } print(f);`)
	want := []string{"fuel\n", "fuel\n", "fuel\n", "fuel\n", "fuel\n", "function\nfuel\n", "function\nfuel\n", "function\n6\nfuel\n", "function\n6\nfuel\n", "function\n6\nfuel\n", "function\n6\nfuel\n", "function\n6\nfuel\n", "function\n6\n7\nfuel\n", "function\n6\n7\nfuel\n", "function\n6\n7\nthrow 6\n", "function\n6\n7\nthrow 6\n"}
	text, f := impl.Bundled(files, "/a")
	if f != (impl.Fault{}) {
		t.Fatal(f)
	}
	for fuel, line := range want {
		wantWhole(t, files, "/a", fuel, line)
		if got := impl.RunText(text, fuel); got != line {
			t.Errorf("with %d steps RunText of %q is %q, not %q", fuel, text, got, line)
		}
	}
	for _, fuel := range oddFuels() {
		line := want[len(want)-1]
		if fuel < 0 {
			line = want[0]
		}
		wantWhole(t, files, "/a", fuel, line)
	}
	wantWayCourse(t, files, "/a", `5:function 7:6 12:7 14:throw:6`)
	// A function that nobody calls costs one step.
	wantWayCourse(t, filesOfTexts(`function f() { return 1; }`), "/a", `1:done`)
	wantText(t, `function f() { return 1; }`, "fuel\n", -1, 0)
	wantText(t, `function f() { return 1; }`, "done\n", 1, 2)
	// Without a statement there is nothing that a step would be for.
	for _, fuel := range append(oddFuels(), 0, 1) {
		wantWhole(t, filesOfTexts(``), "/a", fuel, "done\n")
		wantWhole(t, filesOfTexts(asking("./b"), asking("./a")), "/a", fuel, "done\n")
		if got := impl.RunText(" // nothing", fuel); got != "done\n" {
			t.Errorf("RunText of nothing is %q", got)
		}
	}
}

func TestWholeOfTheMostSteps(t *testing.T) {
	for _, steps := range []int{impl.MaxFuel - 1, impl.MaxFuel, impl.MaxFuel + 1, 2 * impl.MaxFuel} {
		text := costing(steps)
		c := plainCourse(linked(t, text), false)
		for _, fuel := range append(oddFuels(), 0, steps-1, steps, steps+1, impl.MaxFuel-1) {
			want := plainWritten(c.with(fuel))
			if strings.HasSuffix(want, "done\n") != (min(fuel, impl.MaxFuel) >= steps) {
				t.Fatalf("with %d of %d steps it tells %q", fuel, steps, want)
			}
			wantWhole(t, filesOfTexts(text), "/a", fuel, want)
			if got := impl.RunText(text, fuel); got != want {
				t.Errorf("with %d of %d steps RunText is %q, not %q", fuel, steps, got, want)
			}
		}
	}
}

func TestWholeOfFaultsOfLoad(t *testing.T) {
	// One of each kind, in the module that is asked first, in one that it asks for, and far below.
	for _, c := range append(faulty("/a"), struct {
		text string
		f    impl.Fault
	}{`print(1); let a = 1; let a = 2;`, impl.Fault{Kind: impl.FaEarly, Path: "/a", At: impl.EaDup}}) {
		files := filesOf("/a", c.text, "/b", `print(1);`+asking("./a"), "/c", asking("./c", "./d"), "/d", asking("./c", "./b")+`print(2);`)
		for _, entry := range []string{"/a", "/b", "/c", "/d"} {
			wantError(t, files, entry, c.f.Kind, c.f.Path, c.f.At)
		}
	}
	for code, text := range earlyTexts()[1:] {
		wantError(t, filesOf("/a", text), "/a", impl.FaEarly, "/a", code+1)
	}
	for _, spec := range badSpecs() {
		wantError(t, filesOf("/dir/a", `print(1);`+asking("./a", spec)), "/dir/a", impl.FaPath, "/dir/a", 1)
	}
	// What one module of them has told none other is told.
	wantWhole(t, filesOf("/a", `print(;`, "/b", `print(1);`), "/b", 50, "1\ndone\n")
	wantError(t, filesOf("/a", asking("./b")+`print(1);`, "/b", `print(2); fail 3;`), "/a", impl.FaSyntax, "/b", 15)
	wantError(t, filesOf("/a", asking("q")+`print(1);`), "/a", impl.FaMissing, "/lib/q", 0)
	wantError(t, filesOf("/a", asking("./x/..//d/./q")), "/a", impl.FaMissing, "/d/q", 0)
	wantError(t, filesOf("/a", asking("/..")), "/a", impl.FaMissing, "/", 0)
}

func TestWholeOfLinksThatLeadNowhere(t *testing.T) {
	for _, c := range []struct {
		text string
		at   int
	}{
		{`import { none } from "./b";`, 100}, {`import { many } from "./b";`, 100}, {`import { x, hidden } from "./b";`, 101}, {`import d from "./c";`, 100}, {`export { none } from "./b";`, 0}, {`export { x, many } from "./b";`, 1}, {`import { none as q } from "./b"; export { q };`, 0}, {`import { x } from "./b"; export { y } from "./b"; import * as n from "./c"; import { none } from "./c";`, 102},
	} {
		files := filesOfTexts(append([]string{`print(1);` + c.text + `throw none;`}, oneExports()...)...)
		wantError(t, files, "/a", impl.FaLink, "/a", c.at)
		// It is the same where another one asks for it; one that does not come to it runs.
		files = append(files, impl.File{Path: "/e", Text: `print(5);` + asking("./c", "./a")}, impl.File{Path: "/f", Text: asking("./c") + `print(6);`})
		wantError(t, files, "/e", impl.FaLink, "/a", c.at)
		wantWhole(t, files, "/f", 50, "6\ndone\n")
	}
	// A space may be asked for anything.
	wantWhole(t, filesOfTexts(append([]string{`import * as n from "./b"; print(n.many); print(n.none); print(n.x);`}, oneExports()...)...), "/a", 50, "undefined\nundefined\n1\ndone\n")
	// It is the first one in the order in which they run, not in that of their files.
	wantError(t, filesOfTexts(`import { none } from "./b";`, `import "./c"; export { x, none } from "./c";`, `export let x = 1; import { none } from "./a";`), "/a", impl.FaLink, "/c", 100)
	wantError(t, filesOfTexts(`export { x } from "./b"; print(1);`, `export { x } from "./a";`), "/a", impl.FaLink, "/b", 0)
	wantError(t, filesOfTexts(`export { x } from "./b"; print(1);`, `export { x } from "./a";`), "/b", impl.FaLink, "/a", 0)
}

func TestWholeOfFaultsAheadOfFaults(t *testing.T) {
	syntax, early, path, missing, link := `let = 1;`, `export { q };`, asking("X"), asking("./q"), `import { none } from "./z";`
	for _, c := range []struct {
		text string
		kind int
		path string
		at   int
	}{
		// In one file.
		{early + link + syntax, impl.FaSyntax, "/a", len(early+link) + 4}, {syntax + early + path + missing + link, impl.FaSyntax, "/a", 4}, {missing + syntax, impl.FaSyntax, "/a", len(missing) + 4},
		{link + early, impl.FaEarly, "/a", impl.EaUnbound}, {early + link, impl.FaEarly, "/a", impl.EaUnbound}, {missing + path + early, impl.FaEarly, "/a", impl.EaUnbound}, {`let a = 1; let a = 2; print(m.x);` + link, impl.FaEarly, "/a", impl.EaDup},
		{link + path, impl.FaPath, "/a", 1}, {path + link, impl.FaPath, "/a", 0}, {path + missing, impl.FaPath, "/a", 0}, {link + missing, impl.FaMissing, "/q", 0}, {missing + link, impl.FaMissing, "/q", 0}, {missing + path, impl.FaMissing, "/q", 0},
		{link + `throw 1; print(none);`, impl.FaLink, "/a", 100}, {`throw 1 + throwing;` + link, impl.FaLink, "/a", 100},
		// In others: the first one that is come to counts, and all of them ahead of a link.
		{asking("./s", "./q"), impl.FaSyntax, "/s", 4}, {asking("./q", "./s"), impl.FaMissing, "/q", 0}, {asking("./s", "./e"), impl.FaSyntax, "/s", 4}, {asking("./e", "./s"), impl.FaEarly, "/e", impl.EaUnbound}, {asking("./e", "X"), impl.FaEarly, "/e", impl.EaUnbound}, {asking("X", "./e"), impl.FaPath, "/a", 0},
		{link + asking("./s"), impl.FaSyntax, "/s", 4}, {link + asking("./e"), impl.FaEarly, "/e", impl.EaUnbound}, {link + asking("./p"), impl.FaPath, "/p", 0}, {link + asking("./m"), impl.FaMissing, "/q", 0}, {asking("./l", "./s"), impl.FaSyntax, "/s", 4}, {asking("./l", "./e"), impl.FaEarly, "/e", impl.EaUnbound}, {asking("./l", "./m"), impl.FaMissing, "/q", 0}, {asking("./l") + path, impl.FaPath, "/a", 1},
		{asking("./m", "./s"), impl.FaMissing, "/q", 0}, {asking("./s", "./m"), impl.FaSyntax, "/s", 4}, {asking("./p", "./m"), impl.FaPath, "/p", 0}, {asking("./l") + link, impl.FaLink, "/l", 100}, {asking("./s") + early, impl.FaEarly, "/a", impl.EaUnbound}, {asking("./s") + syntax, impl.FaSyntax, "/a", len(asking("./s")) + 4},
	} {
		files := filesOf("/a", c.text, "/s", syntax, "/e", early, "/p", path, "/m", missing, "/l", link, "/z", `print(1);`)
		wantError(t, files, "/a", c.kind, c.path, c.at)
		wantError(t, append(files, impl.File{Path: "/zz", Text: `print(2);` + asking("./z", "./a")}), "/zz", c.kind, c.path, c.at)
	}
}

func TestBundledOfWhatIsTooBig(t *testing.T) {
	five := `print(1+2-3);`
	for _, c := range []struct {
		texts []string
		isBig bool
		out   string
	}{
		{[]string{asking("./b") + strings.Repeat(`print(7);`, 79), `print(7);`}, false, strings.Repeat("7\n", 80)},
		{[]string{asking("./b") + strings.Repeat(`print(7);`, 80), `print(7);`}, true, strings.Repeat("7\n", 81)},
		{[]string{asking("./b") + `print(7);`, strings.Repeat(`print(7);`, 80)}, true, strings.Repeat("7\n", 81)},
		{[]string{asking("./b"), strings.Repeat(`print(7);`, 80)}, false, strings.Repeat("7\n", 80)},
		{[]string{asking("./b") + strings.Repeat(five, 30), strings.Repeat(five, 30)}, false, strings.Repeat("0\n", 60)},
		{[]string{asking("./b") + strings.Repeat(five, 30) + `print(4);`, strings.Repeat(five, 30)}, true, strings.Repeat("0\n", 60) + "4\n"},
		{[]string{asking("./b", "./c") + strings.Repeat(five, 20), asking("./a") + strings.Repeat(five, 20), asking("./b") + strings.Repeat(five, 20) + `let a = 1;`}, true, strings.Repeat("0\n", 60)},
	} {
		files := filesOfTexts(c.texts...)
		// Whole runs all the same.
		wantWhole(t, files, "/a", 1000, c.out+"done\n")
		wantWhole(t, files, "/a", 1, "fuel\n")
		text, f := impl.Bundled(files, "/a")
		if c.isBig && (text != "" || f != (impl.Fault{Kind: impl.FaBig, Path: "/a"})) || !c.isBig && (text == "" || f != (impl.Fault{})) {
			t.Errorf("Bundled(%q) is %q and %v", c.texts, text, f)
		}
		if !c.isBig && impl.RunText(text, 1000) != c.out+"done\n" {
			t.Errorf("RunText of %q is %q", text, impl.RunText(text, 1000))
		}
	}
	// A module that asks for it has another Path, and what has a fault of another kind has that.
	long := strings.Repeat(`print(7);`, 80)
	files := filesOf("/d/first", `print(0);`+asking("../long"), "/long", long, "/l", asking("./long")+`print(1); import { q } from "./long";`, "/m", asking("./long", "./q")+`print(1);`, "/e", asking("./long")+`print(m.x);`)
	if text, f := impl.Bundled(files, "/d/first"); text != "" || f != (impl.Fault{Kind: impl.FaBig, Path: "/d/first"}) {
		t.Errorf("Bundled is %q and %v", text, f)
	}
	wantError(t, files, "/l", impl.FaLink, "/l", 100)
	wantError(t, files, "/m", impl.FaMissing, "/q", 0)
	wantError(t, files, "/e", impl.FaEarly, "/e", impl.EaMember)
	wantWhole(t, files, "/long", 1000, strings.Repeat("7\n", 80)+"done\n")
}

func TestWholeOfOddEntries(t *testing.T) {
	file := filesOf("/a", `print(1);`)
	for _, entry := range slices.Concat(noPaths(), []string{"", " ", "  ", "/a ", " /a", "/a b", "/", "/q", "/a/", "//a", "/./a", "/x/../a", "./a", "a", "error 1 /a 0", "\n", "/a\n", "\x00\xff", "done\n"}) {
		for _, files := range [][]impl.File{file, nil, {}, {{}}, {{Path: entry, Text: `print(1);`}, {Path: entry}}} {
			wantError(t, files, entry, impl.FaMissing, entry, 0)
		}
	}
	if got := impl.Whole(file, "", 9); got != "error 1  0\n" {
		t.Errorf("Whole of no path is %q", got)
	}
	if got := impl.Whole(file, " a b ", 9); got != "error 1  a b  0\n" {
		t.Errorf("Whole of a path with blanks is %q", got)
	}
}

func TestWholeOfFilesThatAreNotRight(t *testing.T) {
	a, b := impl.File{Path: "/a", Text: asking("./b") + `print(1);`}, impl.File{Path: "/b", Text: `print(2);`}
	many := []impl.File{a, b}
	for i := range impl.MaxFiles - 1 {
		many = append(many, impl.File{Path: "/c" + string(rune('a'+i))})
	}
	wantWhole(t, many[:impl.MaxFiles], "/a", 50, "2\n1\ndone\n")
	full := impl.File{Path: "/c", Text: strings.Repeat(" ", impl.MaxText)}
	wantWhole(t, []impl.File{a, b, full}, "/a", 50, "2\n1\ndone\n")
	full.Text += " "
	for _, l := range [][]impl.File{{b, a}, {a, a}, {a, b, b}, {a, b, {Path: "/b", Text: `print(3);`}}, {a, b, a}, {{Path: "/"}, a, b}, {a, b, {Path: "/c/"}}, {a, b, {Path: "c"}}, {a, b, {}}, {{}, a, b}, {a, b, full}, {{Path: "/A"}, a, b}, {a, b, {Path: "/c d"}}, many} {
		for _, f := range append(slices.Clone(l), impl.File{Path: "/q"}) {
			wantError(t, l, f.Path, impl.FaMissing, f.Path, 0)
		}
	}
}

func TestBundledTexts(t *testing.T) {
	for _, c := range []struct {
		texts []string
		want  string
	}{
		{[]string{``}, ``}, {[]string{asking("./b"), `// nothing`}, ``}, {[]string{`print(1);`}, "print(1);\n"}, {[]string{`print( ( 1+2 ) *3 ) ;throw(4);`}, "print((1 + 2) * 3);\nthrow 4;\n"},
		{[]string{`import { v } from "./b"; print(v); throw v + 1;`, `export let v = 6;`}, "let v$1 = 6;\nprint(v$1);\nthrow v$1 + 1;\n"},
		{[]string{`import d from "./b"; import * as n from "./b"; d = n.v; print(n.none()); q = undef;`, `export default 1; export function v() { return v; }`}, "let default$1 = 1;\nfunction v$1() { return v$1; }\nfail v$1;\nprint(undef());\nq$ = undef$;\n"},
		{[]string{asking("./c", "./b") + `let x = 1;`, asking("./d") + `let x = 2;`, asking("./b") + `let x = 3;`, `let x = 4;`}, "let x$1 = 4;\nlet x$2 = 2;\nlet x$3 = 3;\nlet x$4 = 1;\n"},
	} {
		text, f := impl.Bundled(filesOfTexts(c.texts...), "/a")
		if text != c.want || f != (impl.Fault{}) {
			t.Errorf("Bundled(%q) is %q and %v, not %q", c.texts, text, f, c.want)
		}
		for _, fuel := range append(firstFuels(30), oddFuels()...) {
			if whole, script := impl.Whole(filesOfTexts(c.texts...), "/a", fuel), impl.RunText(text, fuel); whole != script {
				t.Errorf("with %d steps Whole(%q) is %q, and RunText of its text %q", fuel, c.texts, whole, script)
			}
		}
	}
	// A deep one, and one with a long name, are read again.
	deep := strings.Repeat("(1 + ", impl.MaxDepth) + "x" + strings.Repeat(")", impl.MaxDepth)
	long := strings.Repeat("n", 600)
	wantWayCourse(t, filesOfTexts(`import { x } from "./b"; print(`+deep+`);`, `export let x = 1;`), "/a", `44:21 44:done`)
	wantWayCourse(t, filesOfTexts(`import { `+long+` as x } from "./b"; print(x); print(`+long+`);`, `export let `+long+` = 1;`), "/a", `4:1 6:ref`)
	wantWayCourse(t, filesOfTexts(`import { g } from "./b"; function f() { return `+strings.Repeat("1 + ", 140)+`g(); } print(f());`, `export function g() { return 1; }`), "/a", `286:141 286:done`)
}

// wantText asks for a text of RunText.
func wantText(t *testing.T, s string, want string, fuels ...int) {
	t.Helper()
	for _, fuel := range fuels {
		if got := impl.RunText(s, fuel); got != want {
			t.Errorf("with %d steps RunText of %.200q is %q, not %q", fuel, s, got, want)
		}
	}
}

func TestRunTextOfEachEnd(t *testing.T) {
	for _, ahead := range aheads() {
		for _, c := range append(endings(), twin{`throw undef;`, "throw undefined"}, twin{`throw undef();`, "type"}, twin{`throw undef + 1;`, "type"}, twin{`fail 1;`, "type"}, twin{`fail none;`, "reference"}, twin{`fail 1000000 * 2;`, "range"}, twin{`let a$1 = 1; throw a$1;`, "throw 1"}, twin{`throw a$;`, "reference"}, twin{`let $ = undef; throw $;`, "throw undefined"}) {
			wantText(t, ahead.text+c.text, ahead.course+c.course+"\n", 1000, impl.MaxFuel, impl.MaxFuel+1, math.MaxInt)
		}
	}
	wantText(t, `print(undef); print(1); fail 2;`, "undefined\n1\ntype\n", 6, 7)
	for fuel, want := range []string{"fuel\n", "fuel\n", "undefined\nfuel\n", "undefined\nfuel\n", "undefined\n1\nfuel\n", "undefined\n1\nfuel\n", "undefined\n1\ntype\n"} {
		wantText(t, `print(undef); print(1); fail 2;`, want, fuel)
	}
	wantText(t, `print(1);`, "fuel\n", 0, -1, -2, math.MinInt, 1)
	wantText(t, ``, "done\n", append(oddFuels(), 0, 1)...)
}

func TestRunTextOfFaults(t *testing.T) {
	fuels := append(oddFuels(), 0, 1, 50)
	for _, c := range []struct {
		text string
		at   int
	}{
		{`print(`, 6}, {`;`, 0}, {`let`, 3}, {`let = 1;`, 4}, {`print(1); %`, 10}, {`print(1); "x`, 10}, {` 01`, 1}, {`let a = 1`, 9}, {`print(1)`, 8}, {`undef = 1;`, 0}, {`let undef = 1;`, 4}, {`let fail = 1;`, 4}, {`fail = 1;`, 5}, {`fail;`, 4}, {`let default = 1;`, 4}, {`"x"`, 0},
		// What stands in modules alone.
		{`import "./a";`, 0}, {`print(1); import { x } from "./a";`, 10}, {`export let a = 1;`, 0}, {`export default 1;`, 0}, {`print(1); export { a };`, 10},
		{strings.Repeat("print(1);", impl.MaxStmts) + "print(2);", 9*impl.MaxStmts + 8}, {"print(" + strings.Repeat("(", impl.MaxDepth+1), 6 + impl.MaxDepth}, {strings.Repeat(";", impl.MaxTokens+1), impl.MaxTokens}, {"print(" + strings.Repeat("1+", impl.MaxExprs/2) + "1);", 6 + impl.MaxExprs}, {strings.Repeat("a", 1<<16), 1 << 16}, {"print(1);\x00", 9}, {"\xff", 0},
	} {
		wantText(t, c.text, fmt.Sprintf("error 2  %d\n", c.at), fuels...)
	}
	for _, c := range []struct {
		text string
		code int
	}{
		{`let a = 1; let a = 2;`, impl.EaDup}, {`let a = 1; function a() { return 1; }`, impl.EaDup}, {`print(1); function a() { return 1; } function a() { return 1; }`, impl.EaDup}, {`let a$ = 1; let a$ = 2;`, impl.EaDup},
		{`print(1); print(n.a);`, impl.EaMember}, {`throw n.a();`, impl.EaMember}, {`let n = 1; print(n.n);`, impl.EaMember}, {`function f() { return n.default; }`, impl.EaMember}, {`print(n.a); let n = 1; let n = 2;`, impl.EaDup},
	} {
		wantText(t, c.text, fmt.Sprintf("error 3  %d\n", c.code), fuels...)
		// What cannot be read counts ahead of it, wherever it stands.
		wantText(t, c.text+`print(`, fmt.Sprintf("error 2  %d\n", len(c.text)+6), fuels...)
		wantText(t, `print(;`+c.text, "error 2  6\n", fuels...)
	}
}

func TestRunTextOfOddTexts(t *testing.T) {
	for b := range 256 {
		s := string([]byte{byte(b)})
		want := "error 2  0\n"
		switch {
		case strings.Contains("\t\n\r ", s):
			want = "done\n"
		case strings.Contains("abcdefghijklmnopqrstuvwxyzABCDEFGHIJKLMNOPQRSTUVWXYZ_$", s):
			// A name that nothing stands behind.
			want = "error 2  1\n"
		}
		wantText(t, s, want, 0, 50)
	}
	for _, s := range []string{"\n", "\r\n\t ", "//", "// print(1);", "// \x00\xff", "//\n//", strings.Repeat(" ", 1<<20), strings.Repeat("//\n", 1<<16)} {
		wantText(t, s, "done\n", -1, 0, 50)
	}
	wantText(t, strings.Repeat(" ", 1<<20)+"print(1);", "1\ndone\n", 50)
	wantText(t, strings.Repeat(" ", 1<<20)+"print(1)", fmt.Sprintf("error 2  %d\n", 1<<20+8), 50)
	wantText(t, "error 2  6\n", "error 2  6\n", 50)
	wantText(t, "done\n", "error 2  5\n", 50)
}
