package tests

import (
	"fmt"
	"math"
	"slices"
	"strconv"
	"strings"
	"testing"

	"loop.example/g00777/impl"
)

// plainShortName has the letters in the place of the digits that the library writes.
func plainShortName(n int) string {
	if n < 0 {
		return ""
	}
	return "$" + strings.Map(func(digit rune) rune {
		return rune("abcdefghijklmnopqrstuvwxyz"[strings.IndexRune("0123456789abcdefghijklmnop", digit)])
	}, strconv.FormatInt(int64(n), 26))
}

func TestShortName(t *testing.T) {
	for n, want := range map[int]string{
		0: "$a", 1: "$b", 2: "$c", 12: "$m", 24: "$y", 25: "$z",
		26: "$ba", 27: "$bb", 51: "$bz", 52: "$ca", 78: "$da", 674: "$zy", 675: "$zz",
		676: "$baa", 677: "$bab", 701: "$baz", 702: "$bba", 1352: "$caa", 17575: "$zzz", 17576: "$baaa", 1000000: "$cexho",
		// 26 * 26 * .. as often as it goes, and the greatest number there is.
		2481152873203736576: "$baaaaaaaaaaaaa", 2481152873203736575: "$zzzzzzzzzzzzz", math.MaxInt: "$dsqyomtlwmkgih",
		-1: "", -2: "", -25: "", -26: "", -27: "", -676: "", math.MinInt: "", math.MinInt + 1: "",
	} {
		if got := impl.ShortName(n); got != want || got != plainShortName(n) {
			t.Errorf("ShortName of %d is %q, not %q, plainly %q", n, got, want, plainShortName(n))
		}
	}
}

// wantShortName asks that a short name is one name of a script, and tells it.
func wantShortName(t *testing.T, n int) string {
	t.Helper()
	s := impl.ShortName(n)
	if s != plainShortName(n) {
		t.Fatalf("ShortName of %d is %q, not %q", n, s, plainShortName(n))
	}
	tokens, bad := impl.Lex(s, true)
	if bad != -1 || !slices.Equal(tokens, []impl.Token{name(s, 0)}) {
		t.Fatalf("ShortName of %d is %q, of the tokens %v", n, s, tokens)
	}
	if m, bad := impl.Parse("let "+s+" = "+s+"();", true); bad != -1 || m.Stmts[0].Name != s || m.Exprs[0].Name != s {
		t.Fatalf("ShortName of %d is %q, which is no plain name: %+v", n, s, m)
	}
	return s
}

func TestShortNamesAreDifferent(t *testing.T) {
	numbers := firstFuels(20000)
	for power := 26 * 26 * 26; ; power *= 26 {
		for d := -30; d <= 30; d++ {
			numbers = append(numbers, power+d, 2*power+d, 25*(power/26*25)+d)
		}
		if power > math.MaxInt/26/2 {
			break
		}
	}
	for d := range 100 {
		numbers = append(numbers, math.MaxInt-d, 1<<32-50+d, 1<<53-50+d)
	}
	slices.Sort(numbers)
	numbers = slices.Compact(numbers)
	seen, ahead := map[string]int{}, ""
	for _, n := range numbers {
		s := wantShortName(t, n)
		if other, is := seen[s]; is {
			t.Fatalf("%q is ShortName of %d and of %d", s, other, n)
		}
		seen[s] = n
		// A longer one is further, and of two of one length the greater one.
		if len(s) < len(ahead) || len(s) == len(ahead) && s <= ahead {
			t.Fatalf("ShortName of %d is %q, and %q stands ahead of it", n, s, ahead)
		}
		ahead = s
	}
}

// wantShortened asks for the text of a script with short names, and for all that is promised of it.
func wantShortened(t *testing.T, text, want string) {
	t.Helper()
	m := mustParse(t, text, true)
	if got := impl.Print(impl.Shorten(m), true); got != impl.Print(mustParse(t, want, true), true) {
		t.Errorf("Shorten of %q is %q, not %q", text, got, want)
	}
	wantShortHeld(t, m)
	if impl.RunScript(m, impl.MaxFuel).End != impl.TrFuel {
		wantShortRun(t, m, math.MaxInt)
	}
}

func wantShortenedAll(t *testing.T, rows [][2]string) {
	t.Helper()
	for _, row := range rows {
		wantShortened(t, row[0], row[1])
	}
}

func TestShortenOfEachStatementAndExpression(t *testing.T) {
	wantShortenedAll(t, [][2]string{
		{`let one = 1;`, `let $a = 1;`},
		{`function one() { return 1; }`, `function $a() { return 1; }`},
		{`let one = 1; one = 2;`, `let $a = 1; $a = 2;`},
		{`let one = 1; print(one);`, `let $a = 1; print($a);`},
		{`let one = 1; throw one;`, `let $a = 1; throw $a;`},
		{`let one = 1; fail one;`, `let $a = 1; fail $a;`},
		{`function one() { return 1; } print(one()); print(one);`, `function $a() { return 1; } print($a()); print($a);`},
		{`let one = 1; print(one + 2); print(3 - one); print(one * one);`, `let $a = 1; print($a + 2); print(3 - $a); print($a * $a);`},
		{`let one = 1; print((one + one) * (one - (one - one)));`, `let $a = 1; print(($a + $a) * ($a - ($a - $a)));`},
		{`let one = 1; let two = one; let three = one + two;`, `let $a = 1; let $b = $a; let $c = $a + $b;`},
		{`let one = 1; function two() { return one; } one = two(); print(two() + one); throw two;`, `let $a = 1; function $b() { return $a; } $a = $b(); print($b() + $a); throw $b;`},
		// The order is that in which they are declared, not that in which they are used, nor that of their bytes.
		{`let z = 1; let y = 2; let x = 3; print(x + y + z);`, `let $a = 1; let $b = 2; let $c = 3; print($c + $b + $a);`},
		{`print(1); let q = 5; print(q); function b() { return q; } print(b()); let a = b(); print(a);`, `print(1); let $a = 5; print($a); function $b() { return $a; } print($b()); let $c = $b(); print($c);`},
		{`function f() { return g() + x; } let x = 1; function g() { return x; } print(f());`, `function $a() { return $c() + $b; } let $b = 1; function $c() { return $b; } print($a());`},
		{`print(g()); function f() { return 1; } function g() { return f(); }`, `print($b()); function $a() { return 1; } function $b() { return $a(); }`},
		// Of what a name is a beginning, or what differs in a letter's size, is another one.
		{`let a = 1; let aa = 2; let A = 3; let a1 = 4; let _a = 5; let a_ = 6; print(a + aa * A - a1 * _a + a_);`, `let $a = 1; let $b = 2; let $c = 3; let $d = 4; let $e = 5; let $f = 6; print($a + $b * $c - $d * $e + $f);`},
		{`let as = 1; function from() { return as; } let undef$1 = from(); let lets = 3; let fails = undef$1 - lets; print(fails);`, `let $a = 1; function $b() { return $a; } let $c = $b(); let $d = 3; let $e = $c - $d; print($e);`},
	})
}

func TestShortenOfNamesAheadOfTheirPlace(t *testing.T) {
	wantShortenedAll(t, [][2]string{
		{`print(one); let one = 1;`, `print($a); let $a = 1;`},
		{`print(two()); let one = 1; function two() { return one; }`, `print($b()); let $a = 1; function $b() { return $a; }`},
		{`let one = two; let two = 1;`, `let $a = $b; let $b = 1;`}, {`let one = one;`, `let $a = $a;`}, {`one = 2; let one = 1;`, `$a = 2; let $a = 1;`},
		{`one = 2; print(one); function one() { return 1; }`, `$a = 2; print($a); function $a() { return 1; }`},
		{`print(one()); function one() { return two(); } function two() { return three; } let three = 3; print(one());`, `print($a()); function $a() { return $b(); } function $b() { return $c; } let $c = 3; print($a());`},
		{`throw last; let first = 1; let last = 2;`, `throw $b; let $a = 1; let $b = 2;`},
	})
}

func TestShortenOfFreeNames(t *testing.T) {
	wantShortenedAll(t, [][2]string{
		// What is free stays, whatever it is called.
		{`print(other); let one = 1;`, `print(other); let $a = 1;`}, {`let one = other(); other = 2;`, `let $a = other(); other = 2;`}, {`other = 1;`, `other = 1;`},
		{`function one() { return a; } let two = one;`, `function $a() { return a; } let $b = $a;`},
		// One that is short is left out, read, called or written.
		{`let one = 1; print($a);`, `let $b = 1; print($a);`}, {`let one = 1; print($a());`, `let $b = 1; print($a());`}, {`let one = 1; $a = one;`, `let $b = 1; $a = $b;`},
		{`function one() { return $a; } print(one);`, `function $b() { return $a; } print($b);`}, {`fail $a; let one = 1;`, `fail $a; let $b = 1;`}, {`throw 1 - (2 + $a * 3); let one = 1;`, `throw 1 - (2 + $a * 3); let $b = 1;`},
		// Several in a row from the first one on.
		{`let one = 1; print($a + $b);`, `let $c = 1; print($a + $b);`}, {`let one = 1; let two = one; print($b + $a() * $c);`, `let $d = 1; let $e = $d; print($b + $a() * $c);`},
		// The one that would be next, and others that lie in between.
		{`let one = 1; let two = one; print($b);`, `let $a = 1; let $c = $a; print($b);`}, {`let one = 1; let two = one; let three = two; print($c + $b);`, `let $a = 1; let $d = $a; let $e = $d; print($c + $b);`},
		{`let one = 1; let two = 2; let three = one + two; print(three); print($a - $c - $e);`, `let $b = 1; let $d = 2; let $f = $b + $d; print($f); print($a - $c - $e);`},
		{`let one = $b + 1; function two() { return one + two(); } one = undef; $d = other;`, `let $a = $b + 1; function $c() { return $a + $c(); } $a = undef; $d = other;`},
		// One that would come behind all is in nobody's way.
		{`let one = 1; print($b);`, `let $a = 1; print($b);`}, {`let one = 1; let two = 2; print($z + $ba);`, `let $a = 1; let $b = 2; print($z + $ba);`},
		// Nor is what is no short name, though it looks like one.
		{`let one = 1; print($aa);`, `let $a = 1; print($aa);`}, {`let one = 1; print($A + a + $ + $$a + $a1 + a$ + $_a + $a$);`, `let $a = 1; print($A + a + $ + $$a + $a1 + a$ + $_a + $a$);`}, {`let one = 1; let two = one; let three = two; print($ab - $ac - $aaa);`, `let $a = 1; let $b = $a; let $c = $b; print($ab - $ac - $aaa);`},
		// A free name is nobody's, however often it stands.
		{`print($a + $a() + $a); $a = $a; let one = $a;`, `print($a + $a() + $a); $a = $a; let $b = $a;`},
	})
}

// lettersFrom are the short names of one letter in a sum, from a letter on.
func lettersFrom(first byte) string {
	names := []string{}
	for c := first; c <= 'z'; c++ {
		names = append(names, "$"+string(rune(c)))
	}
	return strings.Join(names, " + ")
}

func TestShortenWithAllNamesOfOneLetterFree(t *testing.T) {
	wantShortenedAll(t, [][2]string{
		{`let one = 1; print(` + lettersFrom('a') + `);`, `let $ba = 1; print(` + lettersFrom('a') + `);`},
		{`let one = 1; function two() { return one * one; } let three = two() - one; print(three); throw ` + lettersFrom('a') + `;`, `let $ba = 1; function $bb() { return $ba * $ba; } let $bc = $bb() - $ba; print($bc); throw ` + lettersFrom('a') + `;`},
		{`let one = 1; let two = one; print(two); print(` + lettersFrom('a') + ` - $ba);`, `let $bb = 1; let $bc = $bb; print($bc); print(` + lettersFrom('a') + ` - $ba);`},
		{`let one = 1; let two = one; print(two); print(` + lettersFrom('b') + `);`, `let $a = 1; let $ba = $a; print($ba); print(` + lettersFrom('b') + `);`},
		{`let one = 1; let two = one; let three = two; print(three); print(` + strings.Replace(lettersFrom('a'), "$m", "3", 1) + ` + $bb);`, `let $m = 1; let $ba = $m; let $bc = $ba; print($bc); print(` + strings.Replace(lettersFrom('a'), "$m", "3", 1) + ` + $bb);`},
	})
}

func TestShortenOfNamesThatAreShort(t *testing.T) {
	wantShortenedAll(t, [][2]string{
		{`let $a = 1; print($a);`, `let $a = 1; print($a);`}, {`let $a = 1; function $b() { return $a; } let $c = $b(); print($c + $a);`, `let $a = 1; function $b() { return $a; } let $c = $b(); print($c + $a);`},
		{`let $b = 1; print($b);`, `let $a = 1; print($a);`}, {`let $z = 1; print($z);`, `let $a = 1; print($a);`}, {`let $aa = 1; let $ba = $aa; print($ba);`, `let $a = 1; let $b = $a; print($b);`},
		// They change places.
		{`let $b = 1; let $a = 2; print($b - $a); $b = 7; print($a); print($b);`, `let $a = 1; let $b = 2; print($a - $b); $a = 7; print($b); print($a);`},
		{`let $b = 1; let $c = $b + 1; let $a = $c * 5; print($a); print($b); print($c); $c = $a - $b; print($c - $b - $a);`, `let $a = 1; let $b = $a + 1; let $c = $b * 5; print($c); print($a); print($b); $b = $c - $a; print($b - $a - $c);`},
		{`function $c() { return $a; } let $a = 4; function $b() { return $c() + $a; } print($b()); print($c() - $a); print($b);`, `function $a() { return $b; } let $b = 4; function $c() { return $a() + $b; } print($c()); print($a() - $b); print($c);`},
		{`let $d = 1; let $c = 2; let $b = 3; let $a = 4; print($a + $b * $c - $d); $a = $d; $d = $b; print($d - $a);`, `let $a = 1; let $b = 2; let $c = 3; let $d = 4; print($d + $c * $b - $a); $d = $a; $a = $c; print($a - $d);`},
		// Each goes where another one was.
		{`let x = 1; let $a = x + 1; let $b = $a + 1; print(x); print($a); print($b);`, `let $a = 1; let $b = $a + 1; let $c = $b + 1; print($a); print($b); print($c);`},
		{`let $b = 5; let $c = $b; let $d = $c; print($b + $c + $d); $d = 1; print($c);`, `let $a = 5; let $b = $a; let $c = $b; print($a + $b + $c); $c = 1; print($b);`},
		// And what is free among them stays.
		{`let $b = 1; let $a = $b + 1; print($a); print($c);`, `let $a = 1; let $b = $a + 1; print($b); print($c);`}, {`let $c = 1; let $b = $c + 1; print($b); print($a);`, `let $b = 1; let $c = $b + 1; print($c); print($a);`},
		{`let $c = 1; let $d = 2; let $a = 3; print($a - $c * $d); $b = $a;`, `let $a = 1; let $c = 2; let $d = 3; print($d - $a * $c); $b = $d;`}, {`let $a = 1; let $c = 2; print($a - $c); print($b());`, `let $a = 1; let $c = 2; print($a - $c); print($b());`},
		{`let $z = 1; let $ba = $z + $z; print($ba); print($z); throw ` + strings.Replace(lettersFrom('a'), "$z", "1", 1) + `;`, `let $z = 1; let $ba = $z + $z; print($ba); print($z); throw ` + strings.Replace(lettersFrom('a'), "$z", "1", 1) + `;`},
		{`let $ba = 1; let $z = $ba + $ba; print($ba); print($z); throw ` + strings.Replace(lettersFrom('a'), "$z", "1", 1) + `;`, `let $z = 1; let $ba = $z + $z; print($z); print($ba); throw ` + strings.Replace(lettersFrom('a'), "$z", "1", 1) + `;`},
	})
}

func TestShortenWithUndef(t *testing.T) {
	wantShortenedAll(t, [][2]string{
		{`print(undef);`, `print(undef);`}, {`throw undef;`, `throw undef;`}, {`fail undef;`, `fail undef;`}, {`print(undef());`, `print(undef());`}, {`print(undef + 1);`, `print(undef + 1);`},
		{`let one = undef; print(one); one = 3; print(one); one = undef; throw one;`, `let $a = undef; print($a); $a = 3; print($a); $a = undef; throw $a;`},
		{`function one() { return undef; } let two = one(); print(two); print(one() - two);`, `function $a() { return undef; } let $b = $a(); print($b); print($a() - $b);`},
		{`let one = undef; print(one); print(one + undef); let $a = 1;`, `let $a = undef; print($a); print($a + undef); let $b = 1;`}, {`let undef$ = undef; print(undef$); print($a * undef());`, `let $b = undef; print($b); print($a * undef());`},
	})
}

func TestShortenOfScriptsThatDeclareNothing(t *testing.T) {
	for _, text := range []string{``, `print(1);`, `print(1); throw 2;`, `fail 3;`, `print(a);`, `print($b + $a);`, `$a = 1;`, `b = a();`, `print(undef); $b = undef;`, `throw $a() * (1 - $b);`} {
		wantShortened(t, text, text)
	}
}

// declaring declares n names: form has N for the name and M for its number.
func declaring(n int, form func(i int) string, rename func(i int) string) string {
	text := ""
	for i := range n {
		text += strings.NewReplacer("N", rename(i), "M", strconv.Itoa(i)).Replace(form(i))
	}
	return text
}

func TestShortenOfAsManyNamesAsMayBe(t *testing.T) {
	long := func(i int) string { return fmt.Sprintf("%s_%d", strings.Repeat("nAme", 20), i) }
	short := func(left ...int) func(i int) string {
		return func(i int) string {
			for _, n := range left {
				if n <= i {
					i++
				}
			}
			return plainShortName(i)
		}
	}
	plain := func(i int) string { return `let N = M;` }
	both := func(i int) string { return []string{`let N = M + M;`, `function N() { return M; }`}[i%2] }
	own := func(i int) string { return []string{`function N() { return N; }`, `let N = M * 2;`}[i%2] }
	for _, form := range []func(i int) string{plain, both, own} {
		wantShortened(t, declaring(impl.MaxStmts, form, long), declaring(impl.MaxStmts, form, short()))
		// Where they are short, and turned round, each one moves.
		turned := func(i int) string { return plainShortName(impl.MaxStmts - 1 - i) }
		wantShortened(t, declaring(impl.MaxStmts, form, turned), declaring(impl.MaxStmts, form, short()))
		last := `print(N); $b = $ca + $zz;`
		with := func(name string) string { return strings.ReplaceAll(last, "N", name) }
		wantShortened(t, declaring(impl.MaxStmts-2, form, long)+with(long(77)), declaring(impl.MaxStmts-2, form, short(1, 52))+with(short(1, 52)(77)))
	}
	// All that stand at once, and as many that are free as there is room for.
	free := []string{}
	left := []int{}
	for n := 1; len(free) < 110; n += 2 {
		free, left = append(free, plainShortName(n)), append(left, n)
	}
	text := `throw ` + strings.Join(free, ` - `) + `;`
	wantShortened(t, declaring(impl.MaxStmts-1, plain, long)+text, declaring(impl.MaxStmts-1, plain, short(left...))+text)
	free = free[:0]
	for n := range 110 {
		free = append(free, plainShortName(n))
	}
	text = `throw ` + strings.Join(free, ` - `) + `;`
	wantShortened(t, declaring(impl.MaxStmts-1, plain, long)+text, declaring(impl.MaxStmts-1, plain, func(i int) string { return plainShortName(110 + i) })+text)
}

func TestShortenAtTheLimits(t *testing.T) {
	// As many Exprs as there may be, each with a name that has more bytes than a module may have.
	name := strings.Repeat("x", impl.MaxText+1)
	wantShortened(t, "let "+name+" = 2; print("+name+strings.Repeat(" - "+name, 149)+");", "let $a = 2; print($a"+strings.Repeat(" - $a", 149)+");")
	open, closed := strings.Repeat("one - (", impl.MaxDepth), strings.Repeat(")", impl.MaxDepth)
	wantShortened(t, "let one = 1; print("+open+"one - 4"+closed+");", "let $a = 1; print("+strings.ReplaceAll(open, "one", "$a")+"$a - 4"+closed+");")
	// As many functions inside of each other as there may be, and one more.
	for n, end := range map[int]int{29: impl.TrDone, 30: impl.TrRange} {
		text := `function f0() { return one; } let one = 1;`
		for i := 1; i <= n; i++ {
			text += strings.NewReplacer("N", strconv.Itoa(i), "M", strconv.Itoa(i-1)).Replace(`function fN() { return fM() + one; }`)
		}
		m := mustParse(t, text+"print(f"+strconv.Itoa(n)+"());", true)
		wantShortHeld(t, m)
		if got := wantShortRun(t, m, math.MaxInt); got.End != end {
			t.Errorf("%d functions inside of each other tell %v", n, got)
		}
	}
	// As many steps as there may be, and more.
	for _, steps := range []int{impl.MaxFuel - 1, impl.MaxFuel, impl.MaxFuel + 1, 2 * impl.MaxFuel} {
		m := mustParse(t, costing(steps), true)
		wantShortHeld(t, m)
		short := impl.Shorten(m)
		for _, fuel := range append(oddFuels(), 0, 1, 14, 15, 16, 1000, impl.MaxFuel-2, impl.MaxFuel-1) {
			if got, want := impl.RunScript(short, fuel), impl.RunScript(m, fuel); !isSameTrace(got, want) || steps > impl.MaxFuel && got.End != impl.TrFuel {
				t.Errorf("with %d steps of %d it tells %d and %d lines, not %d and %d", fuel, steps, got.End, len(got.Out), want.End, len(want.Out))
			}
		}
	}
}

func TestShortenKeepsWhatScriptsDo(t *testing.T) {
	for _, c := range []twin{
		{`let one = 1; print(one); one = one + 1; print(one); throw one;`, `4:1 10:2 12:throw:2`},
		{`function f() { return x; } let x = 1; let y = f(); x = 2; print(y); print(f()); print(f);`, `10:1 13:2 15:function 15:done`},
		{`print(1); print(a); let a = 1;`, `2:1 4:ref`}, {`print(1); let a = b; let b = 1;`, `2:1 4:ref`}, {`print(1); a = 2; let a = 1;`, `2:1 4:ref`}, {`let a = 1; print(a); print(none); print(2);`, `4:1 6:ref`}, {`let a = 1; print(a); none = a; print(2);`, `4:1 6:ref`},
		// What is free is nobody's, as soon as anybody could have its name.
		{`let a = 1; print(a); print($a); print(2);`, `4:1 6:ref`}, {`let a = 1; print(a); $a = 2; print(a);`, `4:1 6:ref`}, {`let a = 1; let b = 2; print(a); print($b); print(b);`, `6:1 8:ref`}, {`let a = 1; function f() { return $c + a; } let c = 3; print(c); print(f()); print(2);`, `7:3 11:ref`},
		{`function a() { return 1; } print(a()); print($a()); print(2);`, `4:1 6:ref`}, {`print($a); let a = 1;`, `2:ref`}, {`let $b = 1; let $c = 2; print($b - $c); print($a); print(3);`, `8:-1 10:ref`},
		// What changes places is what it was.
		{`let $b = 1; let $a = 2; print($b - $a); $b = 7; print($a); print($b); throw $a;`, `8:-1 12:2 14:7 16:throw:2`}, {`function $b() { return $a; } function $a() { return 5; } print($a()); print($b); let x = $b(); print(x()); $a = 3; print($b());`, `5:5 7:function 13:5 18:3 18:done`},
		{`let f = 1; print(f); print(f()); print(2);`, `4:1 6:type`}, {`let a = undef; print(a); print(a + 1);`, `4:undefined 8:type`}, {`let a = 1000000; print(a); print(a + 1);`, `4:1000000 8:range`}, {`let a = 3; print(a); fail a; print(a);`, `4:3 6:type`}, {`function f() { return f(); } print(0); print(f());`, `3:0 35:range`}, {`function f() { return 1; } let g = f; print(g()); g = 2; throw g();`, `6:1 10:type`},
	} {
		m := mustParse(t, c.text, true)
		wantScriptCourse(t, c.text, c.course)
		wantScriptCourse(t, impl.Print(impl.Shorten(m), true), c.course)
		wantShortHeld(t, m)
		wantShortRun(t, m, math.MaxInt)
	}
}

// wantUnshortened asks that a program stays as it is.
func wantUnshortened(t *testing.T, what string, m impl.Mod) {
	t.Helper()
	if got := impl.Shorten(m); !isSameMod(got, m) {
		t.Errorf("Shorten with %s is %+v, not %+v", what, got, m)
	}
	wantShortHeld(t, m)
}

// moduleTexts are modules that are no scripts.
func moduleTexts() []string {
	return []string{
		`import "x"; let one = 1;`, `import { one } from "x"; print(one);`, `import { a as one } from "x"; let two = one;`, `import one from "x"; function two() { return one(); }`, `import * as one from "x"; print(one.two); let three = one.three();`,
		`export let one = 1;`, `export function one() { return one; }`, `export default 1; let one = 2;`, `let one = 1; export { one };`, `let one = 1; export { one as two };`, `let one = 1; export { two } from "x";`, `let one = 1; export * from "x";`,
		// These names are words of a script.
		`let undef = 1;`, `function fail() { return 1; }`, `let one = 1; undef = one;`, `let one = 1; print(fail + one);`, `let one = 1; fail = one;`,
	}
}

func TestShortenOfModules(t *testing.T) {
	for _, text := range moduleTexts() {
		wantUnshortened(t, text, mustParse(t, text, false))
	}
	wantUnshortened(t, "all that a module has", okModule(t))
	wantUnshortened(t, "as much as may be", fullMod())
	// What is a program of either kind is one of a script.
	for text, short := range map[string]string{`let one = 1; print(one);`: `let $a = 1; print($a);`, `function one() { return undef; } one = two;`: `function $a() { return undef; } $a = two;`} {
		if got := impl.Shorten(mustParse(t, text, false)); !isSameMod(got, mustParse(t, short, true)) {
			t.Errorf("Shorten of %q is %+v", text, got)
		}
	}
}

// earlyScripts have an early error each.
func earlyScripts() map[string]int {
	return map[string]int{
		`let a = 1; let a = 2;`: impl.EaDup, `let one = 1; function one() { return 2; } print(one);`: impl.EaDup, `function f() { return 1; } let g = f(); function f() { return g; }`: impl.EaDup, `let one = 1; let two = 2; let three = 3; let one = two;`: impl.EaDup, `let $a = 1; let $b = 2; let $a = $b;`: impl.EaDup,
		`let one = 1; print(one.two);`: impl.EaMember, `let one = 1; print(two.one() - one);`: impl.EaMember, `function one() { return one.one; }`: impl.EaMember, `print(a.b);`: impl.EaMember, `let one = 1; fail $a.default;`: impl.EaMember, `let one = 1; let one = one.one;`: impl.EaDup,
	}
}

func TestShortenWithEarlyErrors(t *testing.T) {
	for text, code := range earlyScripts() {
		m := mustParse(t, text, true)
		if got := impl.Early(m, true); got != code {
			t.Fatalf("Early of %q is %d", text, got)
		}
		wantUnshortened(t, text, m)
		wantNoScriptRun(t, text, impl.Shorten(m))
	}
}

// changedText is a script that wrongChanges make wrong, one by one.
const changedText = `let one = 1 + 2; function two() { return one * three; } one = two(); print(7); throw one;`

// wrongChanges make a Mod that is no right script of that one.
func wrongChanges() map[string]func(m *impl.Mod) {
	return map[string]func(m *impl.Mod){
		"a request":                func(m *impl.Mod) { m.Requests = []string{"x"} },
		"an Imp":                   func(m *impl.Mod) { m.Imps = []impl.Imp{{Spec: "x", From: "three", Local: "three"}} },
		"an Imp with its request":  func(m *impl.Mod) { m.Requests, m.Imps = []string{"x"}, []impl.Imp{{Spec: "x", From: "a", Local: "a"}} },
		"an Exp":                   func(m *impl.Mod) { m.Exps = []impl.Exp{{Kind: impl.EpLocal, Name: "one", Local: "one"}} },
		"an Exp of no Kind":        func(m *impl.Mod) { m.Exps = []impl.Exp{{}} },
		"a default":                func(m *impl.Mod) { m.Stmts[0].Name = impl.DefaultName },
		"a Stmt of no Kind":        func(m *impl.Mod) { m.Stmts[3].Kind = 0 },
		"a Stmt of a Kind above":   func(m *impl.Mod) { m.Stmts[3].Kind = 7 },
		"a StPrint with a Name":    func(m *impl.Mod) { m.Stmts[3].Name = "one" },
		"a Name that is a word":    func(m *impl.Mod) { m.Stmts[0].Name = "fail" },
		"a StSet of undef":         func(m *impl.Mod) { m.Stmts[2].Name = "undef" },
		"a StLet of undef":         func(m *impl.Mod) { m.Stmts[0].Name = "undef" },
		"a Name without a byte":    func(m *impl.Mod) { m.Stmts[0].Name = "" },
		"a Name of two words":      func(m *impl.Mod) { m.Stmts[0].Name = "one two" },
		"a Name that is a number":  func(m *impl.Mod) { m.Exprs[3].Name = "1" },
		"a Name of a sum":          func(m *impl.Mod) { m.Exprs[2].Name = "one" },
		"a Name of a number":       func(m *impl.Mod) { m.Exprs[0].Name = "one" },
		"a Field of a name":        func(m *impl.Mod) { m.Exprs[3].Field = "one" },
		"a Num of a name":          func(m *impl.Mod) { m.Exprs[3].Num = 1 },
		"a Num below 0":            func(m *impl.Mod) { m.Exprs[0].Num = -1 },
		"a Num above MaxNum":       func(m *impl.Mod) { m.Exprs[1].Num = impl.MaxNum + 1 },
		"an Expr of no Kind":       func(m *impl.Mod) { m.Exprs[0].Kind = 0 },
		"an Expr of a Kind above":  func(m *impl.Mod) { m.Exprs[0].Kind = 9 },
		"sides in the other order": func(m *impl.Mod) { m.Exprs[2].L, m.Exprs[2].R = 1, 0 },
		"a side of itself":         func(m *impl.Mod) { m.Exprs[2].L = 2 },
		"an L below 0":             func(m *impl.Mod) { m.Exprs[2].L = math.MinInt },
		"an R behind the end":      func(m *impl.Mod) { m.Exprs[5].R = math.MaxInt },
		"both sides one":           func(m *impl.Mod) { m.Exprs[2].R = 0 },
		"a Stmt's Expr below 0":    func(m *impl.Mod) { m.Stmts[4].Expr = -1 },
		"a Stmt's Expr far away":   func(m *impl.Mod) { m.Stmts[4].Expr = math.MaxInt },
		"two Stmts with one Expr":  func(m *impl.Mod) { m.Stmts[4].Expr = m.Stmts[3].Expr },
		"an Expr that no one has":  func(m *impl.Mod) { m.Exprs = append(m.Exprs, impl.Expr{Kind: impl.ExName, Name: "one"}) },
		"no Expr":                  func(m *impl.Mod) { m.Exprs = nil },
		"no Stmt":                  func(m *impl.Mod) { m.Stmts = nil },
		"a Stmt too many":          func(m *impl.Mod) { *m = manyStmts(impl.MaxStmts + 1) },
		"far too many Stmts":       func(m *impl.Mod) { *m = manyStmts(1 << 12) },
		"an Expr too many":         func(m *impl.Mod) { *m = manyExprs(impl.MaxExprs + 1) },
		"one ( too many":           func(m *impl.Mod) { *m = deepMod(impl.ExSub, impl.MaxDepth+1) },
	}
}

// oddMods have nothing, or nothing that stands on anything.
func oddMods() map[string]impl.Mod {
	return map[string]impl.Mod{
		"the zero Mod":        {},
		"empty lists":         {Requests: []string{}, Imps: []impl.Imp{}, Exps: []impl.Exp{}, Stmts: []impl.Stmt{}, Exprs: []impl.Expr{}},
		"a request alone":     {Requests: []string{"x"}},
		"Imps and Exps alone": {Imps: []impl.Imp{{Local: "a"}}, Exps: []impl.Exp{{Kind: impl.EpStar}}},
		"a Stmt alone":        {Stmts: []impl.Stmt{{Kind: impl.StLet, Name: "one"}}},
		"an Expr alone":       {Exprs: []impl.Expr{{Kind: impl.ExName, Name: "one"}}},
	}
}

func TestShortenOfProgramsThatAreNotRight(t *testing.T) {
	wantShortened(t, changedText, `let $a = 1 + 2; function $b() { return $a * three; } $a = $b(); print(7); throw $a;`)
	for what, change := range wrongChanges() {
		m := mustParse(t, changedText, true)
		change(&m)
		if impl.ModOk(m, true) {
			t.Fatalf("%s: %+v is right", what, m)
		}
		wantUnshortened(t, what, m)
	}
	if !impl.ModOk(manyStmts(impl.MaxStmts), true) || !impl.ModOk(manyExprs(impl.MaxExprs-1), true) {
		t.Error("what has too many of a thing is not what the test stands on")
	}
	for what, m := range oddMods() {
		wantUnshortened(t, what, m)
	}
}

// manyStmts declares n names, each by that of the one ahead of it.
func manyStmts(n int) impl.Mod {
	m := impl.Mod{}
	for i := range n {
		m.Stmts = append(m.Stmts, impl.Stmt{Kind: impl.StLet, Name: "n" + strconv.Itoa(i+1), Expr: i})
		m.Exprs = append(m.Exprs, impl.Expr{Kind: impl.ExName, Name: "n" + strconv.Itoa(i)})
	}
	return m
}

// manyExprs declares a name, by a product of n Exprs (an odd number), and itself.
func manyExprs(n int) impl.Mod {
	m := impl.Mod{Exprs: []impl.Expr{{Kind: impl.ExName, Name: "one"}}, Stmts: []impl.Stmt{{Kind: impl.StLet, Name: "one", Expr: n - 1}}}
	for at := 1; at < n; at += 2 {
		m.Exprs = append(m.Exprs, impl.Expr{Kind: impl.ExName, Name: "one"}, impl.Expr{Kind: impl.ExMul, L: at - 1, R: at})
	}
	return m
}

func TestShortNamesAreNewMemory(t *testing.T) {
	for _, n := range []int{0, 1, 25, 26, 676, math.MaxInt} {
		if first, second := impl.ShortName(n), impl.ShortName(n); sharesMemory(first, second) || first != second {
			t.Errorf("ShortName of %d is %q and %q, or they share memory", n, first, second)
		}
	}
	script := `let aa = 1 + bb; function $b() { return aa * (dd() + 4); } aa = $b() + aa; print(undef - aa); throw aa - $b; bb = $b();`
	for _, m := range []impl.Mod{mustParse(t, script, true), mustParse(t, script+` let aa = 1;`, true), mustParse(t, `import { aa as bb } from "./cc"; export { bb as dd }; export { ee } from "./ff"; print(bb + (1 + 1)); let gg = hh();`, false), fullMod()} {
		first, second := impl.Shorten(m), impl.Shorten(m)
		if !isSameMod(first, second) || len(first.Exprs) == 0 {
			t.Fatalf("Shorten is %+v and %+v", first, second)
		}
		wantApart(t, impl.Graph{Mods: []impl.Mod{first}}, impl.Graph{Mods: []impl.Mod{m, second}})
		before := cloneMod(second)
		clear(first.Requests[:cap(first.Requests)])
		clear(first.Imps[:cap(first.Imps)])
		clear(first.Exps[:cap(first.Exps)])
		clear(first.Stmts[:cap(first.Stmts)])
		clear(first.Exprs[:cap(first.Exprs)])
		if !isSameMod(second, before) || !isSameMod(impl.Shorten(m), before) {
			t.Error("an answer is kept")
		}
	}
	// Where rows share their texts, those of the answer do not.
	one, free := strings.Clone("$a"), strings.Clone("$b")
	for _, kind := range []int{impl.StLet, impl.StFn, impl.StPrint} {
		m := impl.Mod{Stmts: []impl.Stmt{{Kind: kind, Name: one, Expr: 2}, {Kind: impl.StSet, Name: one, Expr: 3}, {Kind: impl.StSet, Name: free, Expr: 4}}, Exprs: []impl.Expr{{Kind: impl.ExName, Name: one}, {Kind: impl.ExCall, Name: free}, {Kind: impl.ExAdd, L: 0, R: 1}, {Kind: impl.ExName, Name: free}, {Kind: impl.ExCall, Name: one}}}
		if impl.ModOk(m, true) != (kind != impl.StPrint) {
			t.Fatalf("%+v is not what the test stands on", m)
		}
		wantApart(t, impl.Graph{Mods: []impl.Mod{impl.Shorten(m)}}, impl.Graph{Mods: []impl.Mod{m}})
	}
}
