package tree_test

import (
	"math/rand/v2"
	"strings"
	"testing"

	"drover/api"
	"drover/tree"
)

// grammar is the chapter's, rule by rule; of words that stand for no rule each is a token: NAME, INT and TEXT any of its kind, END the end.
const grammar = `
program = items END
items =
items = items item
item = func NAME params body
item = actor NAME params { ons }
ons =
ons = ons on NAME params body
params = ( )
params = ( names )
names = NAME
names = names , NAME
body = { stmts }
stmts =
stmts = stmts stmt
stmt = let NAME = or ;
stmt = set NAME = or ;
stmt = if ( or ) body
stmt = if ( or ) body else body
stmt = while ( or ) body
stmt = return or ;
stmt = send post NAME args ;
stmt = become NAME args ;
stmt = stop ;
stmt = or ;
args = ( )
args = ( ors )
ors = or
ors = ors , or
or = and
or = or || and
and = cmp
and = and && cmp
cmp = add
cmp = add compares add
compares = ==
compares = !=
compares = <=
compares = >=
compares = <
compares = >
add = mul
add = add + mul
add = add - mul
add = add ++ mul
mul = unary
mul = mul * unary
mul = mul / unary
mul = mul % unary
unary = - unary
unary = ! unary
unary = post
post = primary
post = post [ or ]
primary = INT
primary = true
primary = false
primary = TEXT
primary = self
primary = NAME
primary = len ( or )
primary = call NAME args
primary = spawn NAME args
primary = ( )
primary = ( ors )
`

// allTokens is each token that there is, of names, ints and texts one.
var allTokens = strings.Fields("NAME INT TEXT actor become call else false func if len let on return self send set spawn stop true while && || == != <= >= ++ < > + - * / % ! ( ) [ ] { } , ; =")

// production is a line of the grammar.
type production struct {
	rule string
	is   []string
}

// state is a production of which so much stood from some place on.
type state struct {
	production, done, from int
}

// chart tells which tokens may stand behind others, by all the ways at once in which these may be a program's beginning (Earley's).
type chart struct {
	productions []production
	byRule      map[string][]int
	sets        [][]state
}

// newChart is a chart of no token.
func newChart() *chart {
	c := &chart{byRule: map[string][]int{}}
	for _, line := range strings.Split(strings.TrimSpace(grammar), "\n") {
		words := strings.Fields(line)
		c.byRule[words[0]] = append(c.byRule[words[0]], len(c.productions))
		c.productions = append(c.productions, production{words[0], words[2:]})
	}
	c.close([]state{{}})
	return c
}

// next is what comes next in s; nothing, if s is whole.
func (c *chart) next(s state) string {
	p := c.productions[s.production]
	if s.done == len(p.is) {
		return ""
	}
	return p.is[s.done]
}

// close puts one more set behind the others: that, and all that follows from it.
func (c *chart) close(set []state) {
	here := len(c.sets)
	seen := map[state]bool{}
	add := func(s state) {
		if !seen[s] {
			seen[s] = true
			set = append(set, s)
		}
	}
	first := set
	set = nil
	for _, s := range first {
		add(s)
	}
	for i := 0; i < len(set); i++ {
		s := set[i]
		next := c.next(s)
		if next == "" {
			from := set
			if s.from < here {
				from = c.sets[s.from]
			}
			for _, outer := range from {
				if c.next(outer) == c.productions[s.production].rule {
					add(state{outer.production, outer.done + 1, outer.from})
				}
			}
			continue
		}
		for _, p := range c.byRule[next] {
			add(state{p, 0, here})
			if len(c.productions[p].is) == 0 { // it may have been over ahead of s
				add(state{s.production, s.done + 1, s.from})
			}
		}
	}
	c.sets = append(c.sets, set)
}

// push takes one more token, if it may stand there.
func (c *chart) push(token string) bool {
	var set []state
	for _, s := range c.sets[len(c.sets)-1] {
		if c.next(s) == token {
			set = append(set, state{s.production, s.done + 1, s.from})
		}
	}
	if set != nil {
		c.close(set)
	}
	return set != nil
}

// pop takes the last token back.
func (c *chart) pop() {
	c.sets = c.sets[:len(c.sets)-1]
}

// inLines is a text of these tokens, the first one in line 1, the next one in line 2, ..
func inLines(tokens []string) string {
	var text strings.Builder
	for _, token := range tokens {
		switch token {
		case "NAME":
			token = "n"
		case "INT":
			token = "7"
		case "TEXT":
			token = `"+"`
		}
		text.WriteString(token + "\n")
	}
	return text.String()
}

// wantPlace tells which fault there was of these tokens, if it was not that of the first one (from 0 on) that may not stand there; none, if that is -1.
func wantPlace(t *testing.T, tokens []string, first int) {
	t.Helper()
	wanted := api.Fault{Err: api.ErrSyntax, Line: first + 1}
	if first < 0 {
		wanted = api.Fault{}
	}
	if p, f := tree.Parse(inLines(tokens)); f != wanted {
		t.Fatalf("Parse of %s: %v; want %v", strings.Join(tokens, " "), f, wanted)
	} else if f.Err == api.OK && !tree.Right(p) {
		t.Fatalf("what is parsed of %s is not right", strings.Join(tokens, " "))
	}
}

// wantNextTokens asks each token behind those of a chart, and the end.
func (c *chart) wantNextTokens(t *testing.T, tokens []string) {
	t.Helper()
	at := len(tokens)
	if c.push("END") {
		wantPlace(t, tokens, -1)
		c.pop()
	} else {
		wantPlace(t, tokens, at)
	}
	for _, token := range allTokens {
		with := append(tokens[:at:at], token)
		switch {
		case !c.push(token):
			wantPlace(t, with, at)
			continue
		case c.push("END"):
			wantPlace(t, with, -1)
			c.pop()
		default:
			wantPlace(t, with, at+1)
		}
		c.pop()
	}
}

// wholeProgram is tokens of a program that has each rule of the grammar.
const wholeProgram = `func NAME ( ) { } func NAME ( NAME , NAME , NAME ) { let NAME = INT ; set NAME = true || false && self == TEXT ; }
actor NAME ( NAME ) { } actor NAME ( ) { on NAME ( NAME ) { if ( NAME != NAME ) { stop ; } else { while ( NAME < - NAME + INT - INT ++ INT ) { } } return ( ) ; }
on NAME ( ) { if ( ! INT * INT / INT % INT ) { } send NAME NAME ( ) ; send self [ INT ] [ NAME ] NAME ( INT , ( NAME ) , ( NAME , NAME , NAME ) ) ; become NAME ( NAME , len ( NAME ) ) ;
len ( TEXT ) [ INT ] ; call NAME ( call NAME ( ) , spawn NAME ( NAME ) ) ; spawn NAME ( ) ; ( ( INT ) ) ; send ( NAME + NAME ) NAME ( ) ; INT >= INT ; INT <= INT || INT > INT ; } } func NAME ( NAME ) { stop ; }`

// P9.1: at each place of a program each token, and the end.
func TestGrammarPlaces(t *testing.T) {
	tokens := strings.Fields(wholeProgram)
	c := newChart()
	for at, token := range tokens {
		c.wantNextTokens(t, tokens[:at])
		if !c.push(token) {
			t.Fatalf("the token %d, %s, may not stand there", at, token)
		}
	}
	c.wantNextTokens(t, tokens)
	if !c.push("END") {
		t.Fatal("the program is not whole")
	}
}

// P9.1: all short rows of tokens, in some places.
func TestGrammarRows(t *testing.T) {
	for _, c := range []struct {
		ahead string
		deep  int
	}{
		{"", 3}, {"func NAME (", 3}, {"func NAME ( )", 2}, {"actor NAME ( ) {", 3}, {"func NAME ( ) {", 2}, {"func NAME ( ) { return", 2}, {"func NAME ( ) { NAME", 2}, {"func NAME ( ) { NAME <", 2}, {"func NAME ( ) { (", 2}, {"func NAME ( ) { ( NAME", 2},
		{"func NAME ( ) { send", 2}, {"func NAME ( ) { send NAME", 2}, {"func NAME ( ) { send NAME NAME (", 2}, {"func NAME ( ) { if", 2}, {"func NAME ( ) { if ( NAME ) { }", 2}, {"func NAME ( ) { while ( NAME ) { }", 2}, {"func NAME ( ) { let NAME", 2}, {"func NAME ( ) { become", 2}, {"func NAME ( ) { stop ; }", 2},
	} {
		chart := newChart()
		tokens := strings.Fields(c.ahead)
		for _, token := range tokens {
			if !chart.push(token) {
				t.Fatal(c.ahead)
			}
		}
		var all func(tokens []string, deep int)
		all = func(tokens []string, deep int) {
			chart.wantNextTokens(t, tokens)
			for _, token := range allTokens {
				if deep > 1 && chart.push(token) {
					all(append(tokens[:len(tokens):len(tokens)], token), deep-1)
					chart.pop()
				}
			}
		}
		all(tokens, c.deep)
	}
}

// P9.1: programs of which some tokens are gone, other ones, doubled or have changed their places.
func TestGrammarByChance(t *testing.T) {
	r := rand.New(rand.NewPCG(9, 1))
	whole := strings.Fields(wholeProgram)
	for range 3000 {
		tokens := append([]string(nil), whole...)
		if r.IntN(2) == 0 {
			from := r.IntN(len(tokens))
			tokens = append([]string{"func", "NAME", "(", ")", "{"}, tokens[from:min(len(tokens), from+r.IntN(60))]...)
			tokens = append(tokens, ";", "}")
		}
		for range r.IntN(4) {
			i, j := r.IntN(len(tokens)), r.IntN(len(tokens))
			switch r.IntN(4) {
			case 0:
				tokens = append(tokens[:i], tokens[i+1:]...)
			case 1:
				tokens[i] = allTokens[r.IntN(len(allTokens))]
			case 2:
				tokens = append(tokens[:i+1], tokens[i:]...)
			case 3:
				tokens[i], tokens[j] = tokens[j], tokens[i]
			}
		}
		c, first := newChart(), -1
		for at, token := range append(tokens[:len(tokens):len(tokens)], "END") {
			if !c.push(token) {
				first = at
				break
			}
		}
		wantPlace(t, tokens, first)
	}
}
