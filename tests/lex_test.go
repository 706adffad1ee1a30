package tests

import (
	"fmt"
	"regexp"
	"slices"
	"strconv"
	"strings"
	"testing"
	"unsafe"

	"loop.example/g00777/impl"
)

// lexSigns are the signs, as the document lists them.
const lexSigns = "{}(),;=.*+-"

func name(text string, at int) impl.Token {
	return impl.Token{Kind: impl.TkName, Text: text, At: at}
}

func num(n, at int) impl.Token {
	return impl.Token{Kind: impl.TkNum, Num: n, At: at}
}

func str(text string, at int) impl.Token {
	return impl.Token{Kind: impl.TkStr, Text: text, At: at}
}

func sign(text string, at int) impl.Token {
	return impl.Token{Kind: impl.TkSign, Text: text, At: at}
}

// inBoth are the two ways to read a text: as a module, and as a script.
var inBoth = []bool{false, true}

func wantTokens(t *testing.T, s string, script bool, want ...impl.Token) {
	t.Helper()
	got, bad := impl.Lex(s, script)
	if bad != -1 || !slices.Equal(got, want) {
		t.Errorf("Lex(%.60q, %v) = %.300s, %d, not %.300s", s, script, fmt.Sprint(got), bad, fmt.Sprint(want))
	}
}

func wantNoTokens(t *testing.T, s string, script bool, place int) {
	t.Helper()
	if got, bad := impl.Lex(s, script); bad != place || len(got) != 0 {
		t.Errorf("Lex(%.60q, %v) = %.300s, %d, not nothing and %d", s, script, fmt.Sprint(got), bad, place)
	}
}

func TestTokenConstants(t *testing.T) {
	kinds := []int{impl.TkName, impl.TkNum, impl.TkStr, impl.TkSign}
	limits := []int{impl.MaxTokens, impl.MaxStr, impl.MaxNum}
	if !slices.Equal(kinds, []int{1, 2, 3, 4}) || !slices.Equal(limits, []int{4000, 40, 1000000}) {
		t.Errorf("the kinds are %v, the limits %v", kinds, limits)
	}
}

func TestLexOfNothing(t *testing.T) {
	for _, script := range inBoth {
		for _, s := range []string{"", " ", "\t", "\n", "\r", " \t\r\n \n\n", "//", "// a @ \" $ \x80", "//\n", "///", "////", "//\n//", "\n//x\r\n\t//y\n ", "// \" \n", strings.Repeat(" ", 1<<16), "//" + strings.Repeat("/", 1<<16)} {
			wantTokens(t, s, script)
		}
	}
}

func TestLexBlanks(t *testing.T) {
	for c := range 256 {
		s := "a" + string([]byte{byte(c)}) + "b"
		switch c {
		case 9, 10, 13, 32:
			wantTokens(t, s, false, name("a", 0), name("b", 2))
			wantTokens(t, s[1:], false, name("b", 1))
			wantTokens(t, s[:2], false, name("a", 0))
			wantTokens(t, s[1:2], false)
		case '$':
			wantTokens(t, s, true, name(s, 0))
			wantNoTokens(t, s, false, 1)
		default:
			tokens, bad := impl.Lex(s, false)
			inName := c == '_' || c >= '0' && c <= '9' || c >= 'a' && c <= 'z' || c >= 'A' && c <= 'Z'
			if inName && len(tokens) == 1 || !inName && strings.IndexByte(lexSigns, byte(c)) >= 0 && len(tokens) == 3 {
				continue
			}
			if inName || len(tokens) != 0 || bad != 1 {
				t.Errorf("Lex(%q) = %v, %d", s, tokens, bad)
			}
		}
	}
}

func TestLexComments(t *testing.T) {
	for _, script := range inBoth {
		for _, c := range []struct {
			s    string
			want []impl.Token
		}{
			{"a // b", []impl.Token{name("a", 0)}}, {"a // b\n", []impl.Token{name("a", 0)}}, {"a // b\nc", []impl.Token{name("a", 0), name("c", 7)}},
			{"a//", []impl.Token{name("a", 0)}}, {"a//\n", []impl.Token{name("a", 0)}}, {"a//b", []impl.Token{name("a", 0)}}, {"a//\nb", []impl.Token{name("a", 0), name("b", 4)}},
			{"12//3", []impl.Token{num(12, 0)}}, {"0//", []impl.Token{num(0, 0)}}, {";//;", []impl.Token{sign(";", 0)}}, {"\"x\"//\"y\"", []impl.Token{str("x", 0)}}, {"*//", []impl.Token{sign("*", 0)}},
			// A comment ends at a byte 10 alone, and nothing in it counts.
			{"// a\rb", nil}, {"// a\rb\nc", []impl.Token{name("c", 7)}}, {"//\x80\xff\x00 \" \\ @\nc", []impl.Token{name("c", 12)}}, {"// // x\nc // y", []impl.Token{name("c", 8)}}, {"/// x\nc", []impl.Token{name("c", 6)}},
			{"// \"\n\"a\"", []impl.Token{str("a", 5)}}, {"//\n//\n\n//\n;", []impl.Token{sign(";", 10)}},
		} {
			wantTokens(t, c.s, script, c.want...)
		}
		for _, c := range []struct {
			s     string
			place int
		}{
			{"/", 0}, {" /", 1}, {"/ /", 0}, {"/\n/", 0}, {"a/", 1}, {"a/b", 1}, {"1/2", 1}, {"a /\n", 2}, {"//\n/", 3}, {"// a\n /x", 6}, {"/* a */", 0}, {";/;", 1}, {"\"a\"/", 3}, {"/\"//\"", 0},
		} {
			wantNoTokens(t, c.s, script, c.place)
		}
	}
}

func TestLexNames(t *testing.T) {
	for _, script := range inBoth {
		for _, s := range []string{"a", "z", "A", "Z", "_", "__", "_0", "a0", "aZ_9", "x1y2", "let", "undef", "as", "abcdefghijklmnopqrstuvwxyzABCDEFGHIJKLMNOPQRSTUVWXYZ_0123456789", strings.Repeat("a", 1<<16)} {
			wantTokens(t, s, script, name(s, 0))
			wantTokens(t, " "+s+"\n", script, name(s, 1))
			wantTokens(t, s+"."+s, script, name(s, 0), sign(".", len(s)), name(s, len(s)+1))
		}
		wantTokens(t, "a\"b\"", script, name("a", 0), str("b", 1))
		wantNoTokens(t, "a\x80", script, 1)
		wantNoTokens(t, "aä", script, 1)
	}
}

func TestLexDollars(t *testing.T) {
	for _, c := range []struct {
		s     string
		place int
	}{{"$", 0}, {"$a", 0}, {"a$b", 1}, {"a$", 1}, {"$$", 0}, {"_$_", 1}, {"a1$2", 2}, {"$1", 0}} {
		wantTokens(t, c.s, true, name(c.s, 0))
		wantTokens(t, ";"+c.s+";", true, sign(";", 0), name(c.s, 1), sign(";", 1+len(c.s)))
		wantNoTokens(t, c.s, false, c.place)
		wantNoTokens(t, "x "+c.s+" y", false, 2+c.place)
	}
	for _, script := range inBoth {
		wantTokens(t, "\"$\" // $", script, str("$", 0))
	}
	wantTokens(t, "a $ b", true, name("a", 0), name("$", 2), name("b", 4))
}

func TestLexNumbers(t *testing.T) {
	most := strconv.Itoa(impl.MaxNum)
	for _, script := range inBoth {
		for _, n := range []int{0, 1, 7, 9, 10, 42, 100, 999999, impl.MaxNum} {
			s := strconv.Itoa(n)
			wantTokens(t, s, script, num(n, 0))
			wantTokens(t, " "+s+" ", script, num(n, 1))
			wantTokens(t, s+";"+s, script, num(n, 0), sign(";", len(s)), num(n, len(s)+1))
		}
		wantTokens(t, "0 0", script, num(0, 0), num(0, 2))
		wantTokens(t, "-1", script, sign("-", 0), num(1, 1))
		wantTokens(t, "1.5", script, num(1, 0), sign(".", 1), num(5, 2))
		wantTokens(t, "1\"2\"3", script, num(1, 0), str("2", 1), num(3, 4))
		for _, s := range []string{
			"00", "01", "007", "0000000000000", strconv.Itoa(impl.MaxNum + 1), "1000010", "1999999", "9999999", "10000000", "0" + most,
			"999999999", "1000000000", "9223372036854775808", "18446744073709551616", "18446744073709551617", strings.Repeat("9", 1<<16), "1" + strings.Repeat("0", 1<<16),
			"1a", "1Z", "1_", "0a", "0x1", "0_", "12ab", "1e5", most + "a", "1_000",
		} {
			wantNoTokens(t, s, script, 0)
			wantNoTokens(t, "a; "+s+" b", script, 3)
		}
		wantNoTokens(t, "1\x80", script, 1)
	}
}

// A $ is right behind a number where it counts as a letter; elsewhere it is the one that begins no token.
func TestLexDollarBehindNumber(t *testing.T) {
	for _, s := range []string{"1$", "0$", "1000000$", "12$3", "5$a"} {
		wantNoTokens(t, s, true, 0)
		wantNoTokens(t, ";"+s, true, 1)
		wantNoTokens(t, s, false, strings.IndexByte(s, '$'))
	}
	wantTokens(t, "1 $", true, num(1, 0), name("$", 2))
}

func TestLexStrings(t *testing.T) {
	full := strings.Repeat("x", impl.MaxStr)
	for _, script := range inBoth {
		for _, s := range []string{"", "a", " ", "  ", "//", "a//b", "./x", "'", "$", "let", "123", "{}(),;=.*+-", "~", "@#%", full, full[1:], strings.Repeat(" ", impl.MaxStr), strings.Repeat("/", impl.MaxStr)} {
			q := "\"" + s + "\""
			wantTokens(t, q, script, str(s, 0))
			wantTokens(t, q+q, script, str(s, 0), str(s, len(q)))
			wantTokens(t, "a"+q+"b", script, name("a", 0), str(s, 1), name("b", 1+len(q)))
			wantTokens(t, " "+q+"//\"", script, str(s, 1))
		}
		for _, s := range []string{
			"\"", "\"a", "\"a b ; c", "\"a\n", "\"//", "\"//\n\"", "\"" + full, "\"a'",
			"\"" + full + "x\"", "\"" + full + full + "\"", "\"" + strings.Repeat("x", 1<<16) + "\"", "\"" + strings.Repeat("x", 1<<16),
			"\"\\\"", "\"\\\"\"", "\"a\\b\"", "\"\\n\"",
		} {
			wantNoTokens(t, s, script, 0)
			wantNoTokens(t, "a = "+s, script, 4)
			wantNoTokens(t, "\"\""+s, script, 2)
		}
	}
	wantNoTokens(t, "\"a\"\"", false, 3)
	wantNoTokens(t, "\"a\" \"b\" \"c", false, 8)
}

func TestLexStringBytes(t *testing.T) {
	for c := range 256 {
		inside := string([]byte{'a', byte(c), 'b'})
		q := "\"" + inside + "\""
		switch {
		case c == '"':
			wantNoTokens(t, q, false, 4)
		case c < 32 || c > 126 || c == '\\':
			wantNoTokens(t, q, false, 0)
			wantNoTokens(t, "; "+q+" ;", true, 2)
		default:
			wantTokens(t, q, false, str(inside, 0))
		}
	}
}

func TestLexSigns(t *testing.T) {
	for _, script := range inBoth {
		var want []impl.Token
		for i, c := range lexSigns {
			wantTokens(t, string(c), script, sign(string(c), 0))
			wantTokens(t, string(c)+string(c), script, sign(string(c), 0), sign(string(c), 1))
			wantTokens(t, "a"+string(c)+"1", script, name("a", 0), sign(string(c), 1), num(1, 2))
			want = append(want, sign(string(c), i))
		}
		if len(want) != 11 {
			t.Errorf("there are %d signs", len(want))
		}
		wantTokens(t, lexSigns, script, want...)
		wantTokens(t, "()=-+", script, sign("(", 0), sign(")", 1), sign("=", 2), sign("-", 3), sign("+", 4))
	}
}

func TestLexAtItsCount(t *testing.T) {
	for _, part := range []string{";", "a ", "7,", "\"\"", "b//\n"} {
		one, _ := impl.Lex(part, false)
		s := strings.Repeat(part, impl.MaxTokens/len(one))
		for _, behind := range []string{"", " ", "\n\t\r ", "//", "// a b c", " // ;\n "} {
			if got, bad := impl.Lex(s+behind, false); bad != -1 || len(got) != impl.MaxTokens {
				t.Errorf("of %q as often as may be, and %q: %d tokens, %d", part, behind, len(got), bad)
			}
		}
		for _, behind := range []string{";", "a", "1", "\"\"", "@", "; ;", "a @", "01", "\"", "/"} {
			wantNoTokens(t, s+behind, false, len(s))
			wantNoTokens(t, s+" // x\n "+behind, false, len(s)+7)
		}
		// A place ahead of the limit counts first.
		wantNoTokens(t, "@"+s+s, false, 0)
		wantNoTokens(t, part+"@"+s, false, len(part))
	}
	wantNoTokens(t, strings.Repeat(";", 1<<20), true, impl.MaxTokens)
}

func TestLexOfWrongBytes(t *testing.T) {
	known := "abcdefghijklmnopqrstuvwxyzABCDEFGHIJKLMNOPQRSTUVWXYZ_0123456789\t\n\r \"" + lexSigns
	for c := range 256 {
		wrong := string([]byte{byte(c)})
		if strings.Contains(known, wrong) {
			continue
		}
		for _, script := range inBoth {
			if script && c == '$' {
				continue
			}
			wantNoTokens(t, wrong, script, 0)
			wantNoTokens(t, wrong+"a", script, 0)
			wantNoTokens(t, wrong+" let a = 1;", script, 0)
			wantNoTokens(t, "let a "+wrong+" = 1;", script, 6)
			wantNoTokens(t, "let a"+wrong+"= 1;", script, 5)
			wantNoTokens(t, "let a = 1; "+wrong, script, 11)
			wantNoTokens(t, "let a = 1;"+wrong, script, 10)
			wantNoTokens(t, "// c\n"+wrong+" // c", script, 5)
			wantNoTokens(t, "a "+wrong+" 01 \"", script, 2)
		}
	}
	wantNoTokens(t, "01 @", false, 0)
	wantNoTokens(t, "\" @", false, 0)
}

var plainBetween = regexp.MustCompile("^(?:[\t\n\r ]|//[^\n]*)+")
var plainDigits = regexp.MustCompile("^[0-9]+")

// plainKinds are patterns of the four kinds, in their order, as the document says them.
func plainKinds(script bool) []*regexp.Regexp {
	letters, others := "A-Za-z_", "|\\$"
	if script {
		letters, others = "A-Za-z_$", ""
	}
	return []*regexp.Regexp{
		regexp.MustCompile("^[" + letters + "][" + letters + "0-9]*"),
		regexp.MustCompile("^(?:0|[1-9][0-9]{0,6})(?:$|[^A-Za-z_0-9$]" + others + ")"),
		regexp.MustCompile("^\"[ !#-\\[\\]-~]{0,40}\""),
		regexp.MustCompile("^[{}(),;=.*+-]"),
	}
}

// plainToken is the zero Token where none of the patterns fits at that place.
func plainToken(s string, at int, kinds []*regexp.Regexp) impl.Token {
	for i, k := range kinds {
		text := k.FindString(s[at:])
		switch {
		case text == "":
		case i+1 == impl.TkNum:
			if n, _ := strconv.Atoi(plainDigits.FindString(text)); n <= impl.MaxNum {
				return num(n, at)
			}
		case i+1 == impl.TkStr:
			return str(text[1:len(text)-1], at)
		default:
			return impl.Token{Kind: i + 1, Text: text, At: at}
		}
	}
	return impl.Token{}
}

// plainLex reads a text by the patterns of its kinds alone.
func plainLex(s string, kinds []*regexp.Regexp) ([]impl.Token, int) {
	var l []impl.Token
	for at := 0; ; at += tokenLen(l[len(l)-1]) {
		at += len(plainBetween.FindString(s[at:]))
		if at == len(s) {
			return l, -1
		}
		token := plainToken(s, at, kinds)
		if token.Kind == 0 {
			return nil, at
		}
		l = append(l, token)
	}
}

func tokenText(k impl.Token) string {
	switch k.Kind {
	case impl.TkNum:
		return strconv.Itoa(k.Num)
	case impl.TkStr:
		return "\"" + k.Text + "\""
	}
	return k.Text
}

func tokenLen(k impl.Token) int {
	return len(tokenText(k))
}

// lexTexts are all texts of up to n pieces, taken from those that matter to a scanner.
func lexTexts(n int) []string {
	pieces := []string{"a", "_", "$", "0", "1", "\"", "/", "\n", " ", "+", "@", "\\"}
	all, last := []string{""}, []string{""}
	for range n {
		var longer []string
		for _, s := range last {
			for _, p := range pieces {
				longer = append(longer, s+p)
			}
		}
		all, last = append(all, longer...), longer
	}
	return all
}

func TestLexOfAllShortTexts(t *testing.T) {
	for _, script := range inBoth {
		kinds := plainKinds(script)
		for _, s := range lexTexts(4) {
			got, bad := impl.Lex(s, script)
			want, place := plainLex(s, kinds)
			if bad != place || !slices.Equal(got, want) {
				t.Fatalf("Lex(%q, %v) = %v, %d, not %v, %d", s, script, got, bad, want, place)
			}
		}
	}
}

// onlyBetween is what may stand where no token does.
var onlyBetween = regexp.MustCompile("^(?:[\t\n\r ]|//[^\n]*(?:\n|$))*$")

// checkPlaces holds the tokens against the bytes at their At.
func checkPlaces(t *testing.T, s string, script bool) {
	t.Helper()
	tokens, bad := impl.Lex(s, script)
	if bad != -1 {
		if bad < 0 || bad >= len(s) || len(tokens) != 0 {
			t.Fatalf("Lex(%q, %v) = %v, %d", s, script, tokens, bad)
		}
		return
	}
	end := 0
	for _, k := range tokens {
		if k.At < end || !strings.HasPrefix(s[k.At:], tokenText(k)) || !onlyBetween.MatchString(s[end:k.At]) {
			t.Fatalf("Lex(%q, %v) = %v: %v is not there", s, script, tokens, k)
		}
		if k.Kind != impl.TkNum && k.Num != 0 || k.Kind == impl.TkNum && k.Text != "" {
			t.Fatalf("Lex(%q, %v) = %v: %v has what its kind does not name", s, script, tokens, k)
		}
		end = k.At + tokenLen(k)
	}
	if !onlyBetween.MatchString(s[end:]) {
		t.Fatalf("Lex(%q, %v) = %v: something is left behind them", s, script, tokens)
	}
}

// someModules are texts as they are written, with what there is in them.
func someModules() []string {
	return []string{
		"import { a as b, c } from \"./x\";\nimport * as s from \"/lib/y\"; // both\nexport default a+b*(2-s.f());\n",
		"export function f(){return 0;}let _x1=1000000;print(_x1);throw f();//end",
		"\t\r\nlet a = \"\" ; // \"no\"\n\n// x\n;;{}(),=.*+-\"//\"\"a b\"7",
		"export { default as d } from \"../q\"; // a comment at the end",
	}
}

func TestTokensStandWhereTheySay(t *testing.T) {
	for _, script := range inBoth {
		for _, s := range someModules() {
			if _, bad := impl.Lex(s, script); bad != -1 {
				t.Errorf("Lex(%q, %v) tells %d", s, script, bad)
			}
		}
		for _, s := range slices.Concat(someModules(), lexTexts(4)) {
			checkPlaces(t, s, script)
		}
	}
	checkPlaces(t, "$a = a$ + $1 + $$;fail undef()//$", true)
}

// withoutAt are the tokens of which no place is told.
func withoutAt(l []impl.Token) []impl.Token {
	l = slices.Clone(l)
	for i := range l {
		l[i].At = 0
	}
	return l
}

func isWordLike(k impl.Token) bool {
	return k.Kind == impl.TkName || k.Kind == impl.TkNum
}

func TestWhatStandsBetweenChangesNothing(t *testing.T) {
	gaps := []string{" ", "\t", "\n", "\r", "  \r\n\t", "//\n", " // a \" @ $ \x80\n ", "////\n//x\n", "// a\r b\n"}
	for _, script := range inBoth {
		for _, s := range slices.Concat(someModules(), lexTexts(3)) {
			want, bad := impl.Lex(s, script)
			if bad != -1 {
				continue
			}
			for i, gap := range append(gaps, "") {
				text := gap
				for j, k := range want {
					// Two that would be read as one cannot stand side by side.
					if gap == "" && j > 0 && isWordLike(want[j-1]) && isWordLike(k) {
						text += gaps[(i+j)%len(gaps)]
					}
					text += tokenText(k) + gap
				}
				for _, end := range []string{"", "//", "// end", "// end\n"} {
					got, place := impl.Lex(text+end, script)
					if place != -1 || !slices.Equal(withoutAt(got), withoutAt(want)) {
						t.Fatalf("Lex(%q, %v) = %v, %d, but of %q it is %v", text+end, script, got, place, s, want)
					}
				}
			}
		}
	}
}

func TestTokensAreNewMemory(t *testing.T) {
	s := strings.Clone("let abc = \"a text\" + x.y(12) ; // c\n$")
	first, bad := impl.Lex(s, true)
	if bad != -1 || len(first) != 13 {
		t.Fatalf("Lex(%q) = %v, %d", s, first, bad)
	}
	from := uintptr(unsafe.Pointer(unsafe.StringData(s)))
	for _, k := range first {
		if p := uintptr(unsafe.Pointer(unsafe.StringData(k.Text))); k.Text != "" && p >= from && p < from+uintptr(len(s)) {
			t.Errorf("the token %v shares the memory of the text", k)
		}
	}
	second, _ := impl.Lex(s, true)
	before := slices.Clone(second)
	for i := range first {
		first[i] = impl.Token{}
	}
	_ = append(first[:0], impl.Token{Kind: 9})
	if third, _ := impl.Lex(s, true); !slices.Equal(second, before) || !slices.Equal(third, before) {
		t.Errorf("two answers share memory: %v, %v", second, third)
	}
}
