package tests

import (
	"slices"
	"strings"
	"testing"

	"loop.example/g00777/impl"
)

// grammarText is the document's table, a rule a line: S a string, N a plain name, # a number, D a plain name or default.
// What other words stand for has its rules below; each other part is a token with that text.
const grammarText = `
program : item
program : program item
item : statement
item : let N = sum ;
item : function N ( ) { return sum ; }
statement : N = sum ;
statement : print ( sum ) ;
statement : throw sum ;
sum : product
sum : sum + product
sum : sum - product
product : part
product : product * part
part : #
part : N
part : N ( )
part : N . D
part : N . D ( )
part : ( sum )
D : N
D : default
`

const moduleGrammarText = grammarText + `
item : import S ;
item : import { imports } from S ;
item : import * as N from S ;
item : import N from S ;
item : export { locals } ;
item : export { others } from S ;
item : export * from S ;
item : export default sum ;
item : export let N = sum ;
item : export function N ( ) { return sum ; }
imports : import-name
imports : imports , import-name
import-name : N
import-name : N as N
import-name : default as N
locals : local-name
locals : locals , local-name
local-name : N
local-name : N as D
others : other-name
others : others , other-name
other-name : D
other-name : D as D
`

const scriptGrammarText = grammarText + `
statement : fail sum ;
part : undef
part : undef ( )
`

// rule is a line of a grammar.
type rule struct {
	left  string
	right []string
}

func rulesOf(text string) []rule {
	rules := []rule{}
	for _, line := range strings.Split(strings.TrimSpace(text), "\n") {
		words := strings.Fields(line)
		if len(words) > 0 {
			rules = append(rules, rule{words[0], words[2:]})
		}
	}
	return rules
}

// state is how far a rule has been followed, from which token on.
type state struct{ rule, dot, from int }

// reader follows all rules of a grammar at once, token by token: columns[i] is what may be ahead of token i.
type reader struct {
	rules   []rule
	columns [][]state
	isLeft  map[string]bool
	script  bool
}

func newReader(script bool) *reader {
	text := moduleGrammarText
	if script {
		text = scriptGrammarText
	}
	r := &reader{rules: rulesOf(text), isLeft: map[string]bool{}, script: script}
	for _, rule := range r.rules {
		r.isLeft[rule.left] = true
	}
	r.columns = [][]state{nil}
	r.begin("program")
	r.close()
	return r
}

func (r *reader) add(s state) {
	last := len(r.columns) - 1
	if !slices.Contains(r.columns[last], s) {
		r.columns[last] = append(r.columns[last], s)
	}
}

// begin adds the rules of a left side, where they begin in the last column.
func (r *reader) begin(left string) {
	for i, rule := range r.rules {
		if rule.left == left {
			r.add(state{i, 0, len(r.columns) - 1})
		}
	}
}

// close adds to the last column all that follows from what stands in it.
func (r *reader) close() {
	last := len(r.columns) - 1
	for i := 0; i < len(r.columns[last]); i++ {
		s := r.columns[last][i]
		if right := r.rules[s.rule].right; s.dot < len(right) {
			if r.isLeft[right[s.dot]] {
				r.begin(right[s.dot])
			}
			continue
		}
		for _, up := range r.columns[s.from] {
			right := r.rules[up.rule].right
			if up.dot < len(right) && right[up.dot] == r.rules[s.rule].left {
				r.add(state{up.rule, up.dot + 1, up.from})
			}
		}
	}
}

// fits tells whether a token may stand for a part of a rule.
func (r *reader) fits(part, token string) bool {
	isName := strings.ContainsAny(token[:1], "abcdefghijklmnopqrstuvwxyz")
	words := []string{"import", "export", "default", "let", "function", "return", "print", "throw"}
	if r.script {
		words = append(words, "fail", "undef")
	}
	switch part {
	case "N":
		return isName && !slices.Contains(words, token)
	case "S":
		return token[0] == '"'
	case "#":
		return token[0] >= '0' && token[0] <= '9'
	}
	return part == token
}

// read goes on by a token, and says whether it may stand there; if it may not, nothing has changed.
func (r *reader) read(token string) bool {
	next := []state{}
	for _, s := range r.columns[len(r.columns)-1] {
		right := r.rules[s.rule].right
		if s.dot < len(right) && !r.isLeft[right[s.dot]] && r.fits(right[s.dot], token) {
			next = append(next, state{s.rule, s.dot + 1, s.from})
		}
	}
	if len(next) == 0 {
		return false
	}
	r.columns = append(r.columns, next)
	r.close()
	return true
}

func (r *reader) back() {
	r.columns = r.columns[:len(r.columns)-1]
}

// isWhole tells whether the tokens may end here.
func (r *reader) isWhole() bool {
	last := len(r.columns) - 1
	return last == 0 || slices.ContainsFunc(r.columns[last], func(s state) bool {
		return s.from == 0 && s.dot == len(r.rules[s.rule].right) && r.rules[s.rule].left == "program"
	})
}

// grammarTokens are one token of each sort, all words, and strings that have the text of another token.
func grammarTokens() []string {
	return append(strings.Split(lexSigns, ""), "import", "export", "default", "let", "function", "return", "print", "throw", "fail", "undef", "as", "from", "a", "7", `"x"`, `"let"`, `"from"`, `";"`)
}

// wantPlace asks Parse where the tokens cannot stand, given that all ahead of the last one can.
func wantPlace(t *testing.T, text, token string, script, stands, whole bool) {
	t.Helper()
	got, bad := impl.Parse(text+token, script)
	want := len(text) + len(token)
	if !stands {
		want = len(text)
	} else if whole {
		want = -1
	}
	if bad != want || want != -1 && !isSameMod(got, impl.Mod{}) {
		t.Fatalf("Parse(%q, %v) = %+v, %d, not %d", text+token, script, got, bad, want)
	}
}

// walk tries each token behind a text whose tokens can stand there, and goes on behind those that can.
func walk(t *testing.T, r *reader, text string, more int) {
	for _, token := range grammarTokens() {
		stands := r.read(token)
		wantPlace(t, text, token, r.script, stands, stands && r.isWhole())
		if !stands {
			// What comes behind it does not count.
			wantPlace(t, text, token+" let let", r.script, false, false)
			continue
		}
		if more > 1 {
			walk(t, r, text+token+" ", more-1)
		}
		r.back()
	}
}

func TestPlacesInAllShortTexts(t *testing.T) {
	for _, script := range inBoth {
		walk(t, newReader(script), "", 6)
	}
}

// longItems are items with each part that they may have, tokens with blanks between.
func longItems(script bool) []string {
	items := []string{
		`let a = 1 + ( b - c ( ) ) * n . d - n . e ( ) ;`,
		`function f ( ) { return 1 * ( 2 - g ( ) ) ; }`,
		`a = ( ( 1 ) ) ;`,
		`print ( ( 1 + 2 ) * n . default ( ) ) ;`,
		`throw a * b * ( c ) ;`,
	}
	if script {
		return append(items, `fail undef ( ) + undef ;`, `undef ( ) ;`, `fail = 1 ;`)
	}
	return append(items,
		`import "x" ;`,
		`import { a , b as c , default as d , as as as , from } from "x" ;`,
		`import * as n from "x" ;`,
		`import as from "x" ;`,
		`import from from "x" ;`,
		`export { a , b as c , d as default } ;`,
		`export { a , b as c , d as default } from "x" ;`,
		`export { default , default as a , from as as } from "x" ;`,
		`export * from "x" ;`,
		`export default ( a ) - b ;`,
		`export let a = fail * undef . undef ;`,
		`export function f ( ) { return f ( ) ; }`,
	)
}

// wantPlaceOf asks Parse for the place that a reader tells of tokens.
func wantPlaceOf(t *testing.T, tokens []string, script bool) {
	t.Helper()
	r, text := newReader(script), ""
	for _, token := range tokens {
		if !r.read(token) {
			wantPlace(t, text, strings.Join(tokens[len(r.columns)-1:], " "), script, false, false)
			return
		}
		text += token + " "
	}
	wantPlace(t, text, "", script, true, r.isWhole())
}

func TestPlacesInEachItem(t *testing.T) {
	for _, script := range inBoth {
		for _, ahead := range []string{"", "a = 1 ; ", "print ( 1 ) ; let b = 2 ; "} {
			for _, long := range longItems(script) {
				tokens := strings.Fields(ahead + long)
				first := len(strings.Fields(ahead))
				for i := first; i <= len(tokens); i++ {
					// The tokens end at each place, and at each one another stands, one more stands, or one lacks.
					wantPlaceOf(t, tokens[:i], script)
					if i < len(tokens) {
						wantPlaceOf(t, slices.Delete(slices.Clone(tokens), i, i+1), script)
					}
					for _, token := range grammarTokens() {
						wantPlaceOf(t, slices.Insert(slices.Clone(tokens), i, token), script)
						if i < len(tokens) {
							other := slices.Clone(tokens)
							other[i] = token
							wantPlaceOf(t, other, script)
						}
					}
				}
			}
		}
	}
}
