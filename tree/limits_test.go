package tree_test

import (
	"math"
	"reflect"
	"strings"
	"testing"

	"drover/api"
	"drover/tree"
)

// firstBeyond is in which level, from 1 on, the first unary would begin within 250 statements and unaries, if there are so many ahead of the levels, each of which leaves one and has another number of them within one another; n+1, if that is what stands within the n levels; 0, if there is none.
func firstBeyond(ahead, n, leaves, has int) int {
	for i := range n {
		if ahead+i*leaves+has > mostGoing {
			return i + 1
		}
	}
	if ahead+n*leaves+1 > mostGoing {
		return n + 1
	}
	return 0
}

// P9.1: a unary within 250 statements and unaries: the line of the token there. What is no deeper than that, but deeper than a tree may be, is told behind all else.
func TestParseGoing(t *testing.T) {
	for _, c := range []struct {
		open, shut  string
		leaves, has int  // how many unaries what is within stands within, and how many there are within one another ahead of it
		deep        bool // a level makes the tree deeper
	}{
		{"(", ")", 1, 1, false}, {"-", "", 1, 1, true}, {"!", "", 1, 1, true}, {"-(", ")", 2, 2, true}, {"a[", "]", 1, 1, true}, {"a[0][", "]", 1, 2, true}, {"len(", ")", 1, 1, true}, {"call g(", ")", 1, 1, true}, {"call g(0, ", ", 0)", 1, 2, true},
		{"spawn c(", ")", 1, 1, true}, {"(0, ", ")", 1, 2, true}, {"(", ", 0)", 1, 1, true}, {"1 + (", ")", 1, 1, true}, {"1 + -1 * (", ") || 1", 1, 2, true}, {"!a[(", ")]", 3, 3, true}, {"((((1)))) + (", ")", 1, 5, true},
	} {
		for _, around := range []struct {
			open, shut string
			ahead      int // statements and unaries
		}{
			{"return ", ";", 1}, {"let v = ", ";", 1}, {"set v = ", ";", 1}, {"1 + ", ";", 1}, {"send self go(", ");", 1}, {"send self go(1, ", ");", 1}, {"send a[", "] go();", 1}, {"send (", ") go();", 1}, {"become c(", ");", 1},
			{"if (", ") { }", 1}, {"while (", ") { }", 1}, {"if (a) { stop; } else { stop; while (", ") { } }", 2}, {"if (a) { if (a) { return ", "; } }", 3}, {"let v = -(", ");", 3},
		} {
			most := mostGoing / c.leaves
			for _, n := range []int{most / 2, most - 6, most - 5, most - 4, most - 3, most - 2, most - 1, most, most + 1, 2 * most} {
				// Each level stands in a line of its own.
				text := "func f() { " + around.open + strings.Repeat("\n"+c.open, n) + "\n1" + strings.Repeat(c.shut, n) + around.shut + " }"
				i := firstBeyond(around.ahead, n, c.leaves, c.has)
				switch {
				case i > 0:
					wantFault(t, text, api.ErrNested, 1+i)
				case c.deep:
					wantFault(t, text, api.ErrNested, 0)
				default:
					if _, f := tree.Parse(text); f != (api.Fault{}) {
						t.Errorf("%d of %q within %q: %v", n, c.open, around.open, f)
					}
				}
			}
		}
	}
}

// P9.1: statements within statements; whose ifs and whiles have a unary each.
func TestParseGoingStatements(t *testing.T) {
	for _, open := range []string{"if (a) {", "while (a) {", "if (a) { } else {"} {
		for _, n := range []int{38, 39, 248, 249, 250, 251, 1000} {
			text := "func f() {" + strings.Repeat("\n"+open, n) + "\nstop;" + strings.Repeat("}", n) + "}"
			switch {
			case n >= mostGoing:
				wantFault(t, text, api.ErrNested, 1+mostGoing)
			case n >= mostNest:
				wantFault(t, text, api.ErrNested, 0)
			default:
				if _, f := tree.Parse(text); f != (api.Fault{}) {
					t.Errorf("%d of %q: %v", n, open, f)
				}
			}
		}
		n := mostGoing - 1
		wantFault(t, "func f() {"+strings.Repeat("\n"+open, n)+"\nreturn\n1;"+strings.Repeat("}", n)+"}", api.ErrNested, 1+mostGoing+1)
		wantFault(t, "func f() {"+strings.Repeat("\n"+open, n)+"\nsend a go();"+strings.Repeat("}", n)+"}", api.ErrNested, 0)
	}
}

// P9.1: what is over does not count, however much of it there was.
func TestParseOver(t *testing.T) {
	pieces := []string{"-", "(", "!", "a[", "len("}
	for _, piece := range pieces {
		one := strings.Repeat(piece, 30) + "1" + strings.Repeat(map[string]string{"-": "", "!": "", "(": ")", "a[": "]", "len(": ")"}[piece], 30)
		text := "func f() { " + strings.Repeat("("+one+", "+one+");", 14) + " }"
		if _, f := tree.Parse(text); f != (api.Fault{}) {
			t.Errorf("%q: %v", piece, f)
		}
	}
}

// P9.1: which of several faults is told: the one that is met first.
func TestParseOrder(t *testing.T) {
	many := strings.Repeat("(", mostGoing-2) // one more of it is as much as may be
	deep := strings.Repeat("-", mostNest) + "1"
	for _, c := range []struct {
		text string
		err  api.Errno
		line int
	}{
		{"func f() { return " + many + "(\n(", api.ErrNested, 2},
		{"func f() { return " + many + "(\n1 @", api.ErrNested, 2},
		{"func f() { return " + many + "(\n-\n@", api.ErrNested, 2},
		{"func f() { return " + many + "(\n@", api.ErrToken, 2},
		{"func f() { return " + many + "\n1\n;", api.ErrSyntax, 3},
		{"func f() { return " + many + "\n)\n;", api.ErrSyntax, 3},
		{"func f() { return " + many + "\n1 @", api.ErrToken, 2},
		// Where a unary begins, its depth is told ahead of what stands there.
		{"func f() { return " + many + "(\n;", api.ErrNested, 2},
		{"func f() { return " + strings.Repeat("-", mostGoing-1), api.ErrNested, 1},
		{"func f() { return " + strings.Repeat("-", mostGoing-2), api.ErrSyntax, 1},
		// How much there is, and how deep, is told behind all else.
		{"func f() { return " + deep + "; }", api.ErrNested, 0},
		{"func f() { return " + deep + ";\n", api.ErrSyntax, 2},
		{"func f() { return " + deep + "; }\n@", api.ErrToken, 2},
		{"func f() { return " + deep + "; }\nfunc f() { return " + many + "(1", api.ErrNested, 2},
		{"func f() { return " + strings.TrimPrefix(deep, "--") + "; }", api.OK, 0},
		{strings.Repeat("func f() { }", mostItems+1) + "\n;", api.ErrSyntax, 2},
	} {
		if _, f := tree.Parse(c.text); f != (api.Fault{Err: c.err, Line: c.line}) {
			t.Errorf("Parse(%.30q .. %.30q): %v; want %d in line %d", c.text, c.text[len(c.text)-min(len(c.text), 20):], f, c.err, c.line)
		}
	}
}

// wantLimit tells whether that program is taken as a tree and as a text, if that is not as wanted.
func wantLimit(t *testing.T, text string, p api.Program, fits bool) {
	t.Helper()
	wantRight(t, p, fits)
	if fits {
		wantProgram(t, text, p)
		shown, e := tree.Show(p)
		if e != api.OK {
			t.Errorf("Show(%s): %d", short(p), e)
		}
		wantProgram(t, shown, p)
		return
	}
	wantFault(t, text, api.ErrNested, 0)
}

// P9.1, P9.2: how many functions, roles, bodies and parameters there may be.
func TestItems(t *testing.T) {
	for _, c := range []struct{ fns, roles int }{{mostItems, 0}, {0, mostItems}, {30, 30}, {1, 59}, {59, 1}, {61, 0}, {0, 61}, {31, 30}, {30, 31}, {1, 60}, {60, 1}, {60, 60}, {100, 0}} {
		p := api.Program{Fns: make([]api.Body, c.fns), Roles: make([]api.Role, c.roles)}
		for i := range p.Fns {
			p.Fns[i].Name = "f"
		}
		for i := range p.Roles {
			p.Roles[i].Name = "c"
		}
		wantLimit(t, strings.Repeat("func f() { }", c.fns)+strings.Repeat("actor c() { }", c.roles), p, c.fns+c.roles <= mostItems)
	}
	for _, n := range []int{mostItems - 1, mostItems, mostItems + 1, 200} {
		on := make([]api.Body, n)
		for i := range on {
			on[i].Name = "x"
		}
		all := "actor c() {" + strings.Repeat("on x() { }", n) + "}"
		wantLimit(t, all, api.Program{Roles: []api.Role{{Name: "c", On: on}}}, n <= mostItems)
		wantLimit(t, "func f() { } actor d() { } "+all+all, api.Program{Fns: []api.Body{{Name: "f"}}, Roles: []api.Role{{Name: "d"}, {Name: "c", On: on}, {Name: "c", On: on}}}, n <= mostItems)
	}
	for _, n := range []int{mostVars - 1, mostVars, mostVars + 1, 200} {
		params := strings.Fields(strings.Repeat("a ", n))
		all := strings.Join(params, ",")
		wantLimit(t, "func f("+all+") { }", api.Program{Fns: []api.Body{{Name: "f", Params: params}}}, n <= mostVars)
		wantLimit(t, "actor c("+all+") { }", api.Program{Roles: []api.Role{{Name: "c", Params: params}}}, n <= mostVars)
		wantLimit(t, "actor c() { on x("+all+") { } }", api.Program{Roles: []api.Role{{Name: "c", On: []api.Body{{Name: "x", Params: params}}}}}, n <= mostVars)
		wantLimit(t, "actor c("+all+") { on y() { } on x("+all+") { } }", api.Program{Roles: []api.Role{{Name: "c", Params: params, On: []api.Body{{Name: "y"}, {Name: "x", Params: params}}}}}, n <= mostVars)
	}
}

// P9.1, P9.2: how many parts there may be, all in all.
func TestParts(t *testing.T) {
	body := func(n int) []api.Stmt {
		var all []api.Stmt
		for range n / 2 {
			all = append(all, st(api.SExpr, "", name("a")))
		}
		if n%2 == 1 {
			all = append(all, st(api.SStop, ""))
		}
		return all
	}
	says := func(n int) string {
		return strings.Repeat("a;", n/2) + strings.Repeat("stop;", n%2)
	}
	for _, n := range []int{mostParts - 1, mostParts, mostParts + 1, mostParts + 2, 2 * mostParts} {
		wantLimit(t, "func f() {"+says(n)+"}", fn(body(n)...), n <= mostParts)
		wantLimit(t, "actor c() { on f() {"+says(n)+"} }", api.Program{Roles: []api.Role{{Name: "c", On: []api.Body{{Name: "f", Stmts: body(n)}}}}}, n <= mostParts)
		third := api.Body{Name: "f", Stmts: body(501)}
		wantLimit(t, "func f() {"+says(501)+"} func f() {"+says(501)+"} actor c() { on f() {"+says(501)+"} on f() {"+says(n-1503)+"} }",
			api.Program{Fns: []api.Body{third, third}, Roles: []api.Role{{Name: "c", On: []api.Body{third, {Name: "f", Stmts: body(n - 1503)}}}}}, n <= mostParts)
		list := make([]api.Expr, n-2)
		for i := range list {
			list[i] = num(1)
		}
		wantLimit(t, "func f() { return ("+strings.Repeat("1,", n-3)+"1); }", ofExpr(tuple(list...)), n <= mostParts)
		wantLimit(t, "func f() { become c("+strings.Repeat("1,", n-3)+"-1); }", fn(st(api.SBecome, "c", append(append([]api.Expr{}, list[1:]...), op("-", num(1)))...)), n <= mostParts)
		inner := api.Stmt{Kind: api.SIf, Exprs: []api.Expr{name("a")}, Body: body(1000), Else: body(n - 1002)}
		wantLimit(t, "func f() { if (a) {"+says(1000)+"} else {"+says(n-1002)+"} }", fn(inner), n <= mostParts)
	}
}

// P9.1, P9.2: how deep there may be something.
func TestNest(t *testing.T) {
	for _, n := range []int{mostNest - 1, mostNest, mostNest + 1, mostNest + 2, 80, 120} {
		// Each of these makes of what is so deep, and of its text, what is one deeper within.
		for _, c := range []struct {
			of          func(e api.Expr) api.Expr
			open, close string
		}{
			{func(e api.Expr) api.Expr { return op("-", e) }, "-", ""},
			{func(e api.Expr) api.Expr { return op("+", e, num(2)) }, "(", "+2)"},
			{func(e api.Expr) api.Expr { return op("+", num(2), e) }, "2+(", ")"},
			{func(e api.Expr) api.Expr { return place(e, num(2)) }, "(", ")[2]"},
			{func(e api.Expr) api.Expr { return place(num(2), e) }, "2[", "]"},
			{func(e api.Expr) api.Expr { return length(e) }, "len(", ")"},
			{func(e api.Expr) api.Expr { return tuple(num(2), e) }, "(2,", ")"},
			{func(e api.Expr) api.Expr { return ex(api.ECall, "g", e) }, "call g(", ")"},
			{func(e api.Expr) api.Expr { return ex(api.ESpawn, "g", num(2), e) }, "spawn g(2,", ")"},
		} {
			e := num(1)
			for range n - 2 { // a statement is 1 deep, what it has 2
				e = c.of(e)
			}
			says := strings.Repeat(c.open, n-2) + "1" + strings.Repeat(c.close, n-2)
			wantLimit(t, asText(says), ofExpr(e), n <= mostNest)
			wantLimit(t, "func f() { stop; send self go(1,"+says+"); }", fn(st(api.SStop, ""), st(api.SSend, "go", self(), num(1), e)), n <= mostNest)
			wantLimit(t, "actor c() { on f() { let x = "+says+"; } }", api.Program{Roles: []api.Role{{Name: "c", On: []api.Body{{Name: "f", Stmts: []api.Stmt{st(api.SLet, "x", e)}}}}}}, n <= mostNest)
		}
		a := []api.Expr{name("a")}
		for _, c := range []struct {
			of   func(s api.Stmt) api.Stmt
			open string
		}{
			{func(s api.Stmt) api.Stmt { return api.Stmt{Kind: api.SIf, Exprs: a, Body: []api.Stmt{s}} }, "if (a) {"},
			{func(s api.Stmt) api.Stmt { return api.Stmt{Kind: api.SIf, Exprs: a, Else: []api.Stmt{s}} }, "if (a) { } else {"},
			{func(s api.Stmt) api.Stmt { return api.Stmt{Kind: api.SWhile, Exprs: a, Body: []api.Stmt{s}} }, "while (a) {"},
		} {
			s, with := st(api.SStop, ""), st(api.SExpr, "", num(1))
			for range n - 1 {
				s = c.of(s)
			}
			for range n - 2 {
				with = c.of(with)
			}
			wantLimit(t, "func f() {"+strings.Repeat(c.open, n-1)+"stop;"+strings.Repeat("}", n-1)+"}", fn(s), n <= mostNest)
			wantLimit(t, "func f() {"+strings.Repeat(c.open, n-2)+"1;"+strings.Repeat("}", n-2)+"}", fn(with), n <= mostNest)
		}
	}
	// Operations bind to the left: a long row of them is deep.
	for _, n := range []int{38, 39, 40, 5000} {
		e := num(1)
		for range n {
			e = op("+", e, num(1))
		}
		wantLimit(t, asText("1"+strings.Repeat("+1", n)), ofExpr(e), n <= 38)
		e = num(1)
		for range n {
			e = place(e, num(1))
		}
		wantLimit(t, asText("1"+strings.Repeat("[1]", n)), ofExpr(e), n <= 38)
	}
	for _, row := range []string{"1" + strings.Repeat("||1", 10000), "1" + strings.Repeat("*1", 16000), "1" + strings.Repeat("[1]", 10000)} {
		wantFault(t, asText(row), api.ErrNested, 0)
	}
}

// P9.2: what each kind of expression may have, in each way that it may be put together.
func TestRightExpressions(t *testing.T) {
	two := strings.Fields("|| && == != < <= > >= + - ++ * / %")
	isIn := func(list []string, s string) bool {
		for _, x := range list {
			if x == s {
				return true
			}
		}
		return false
	}
	none := func(s string) bool { return s == "" }
	isName := func(s string) bool { return isIn([]string{"a", "_", "z9", "selfs", "Len"}, s) }
	zero := func(n int64) bool { return n == 0 }
	rows := map[api.ExprKind]struct {
		s    func(s string) bool
		n    func(n int64) bool
		kids func(kids int, s string) bool
	}{
		api.EInt:   {none, func(n int64) bool { return n >= 0 }, func(kids int, _ string) bool { return kids == 0 }},
		api.ETruth: {none, func(n int64) bool { return n == 0 || n == 1 }, func(kids int, _ string) bool { return kids == 0 }},
		api.EText:  {func(string) bool { return true }, zero, func(kids int, _ string) bool { return kids == 0 }},
		api.EName:  {isName, zero, func(kids int, _ string) bool { return kids == 0 }},
		api.ESelf:  {none, zero, func(kids int, _ string) bool { return kids == 0 }},
		api.ETuple: {none, zero, func(kids int, _ string) bool { return kids != 1 }},
		api.EOp: {func(string) bool { return true }, zero, func(kids int, s string) bool {
			return kids == 2 && isIn(two, s) || kids == 1 && isIn([]string{"-", "!"}, s)
		}},
		api.EAt:    {none, zero, func(kids int, _ string) bool { return kids == 2 }},
		api.ELen:   {none, zero, func(kids int, _ string) bool { return kids == 1 }},
		api.ECall:  {isName, zero, func(int, string) bool { return true }},
		api.ESpawn: {isName, zero, func(int, string) bool { return true }},
	}
	texts := append([]string{"", "a", "_", "z9", "selfs", "Len", "self", "len", "true", "1", "9z", " a", "a ", "a#", "#a", "a b", "a\n", "-a", "a-", "\x00", "\xff", "é", "!", "=", "(", ")", "[", ",", ";", "&", "|", "+ ", " +", "--", "!!", "===", "<>", "@", "\"a\"", "+-"}, two...)
	for i := range 256 {
		kind := api.ExprKind(i)
		row, known := rows[kind]
		for _, s := range texts {
			for _, n := range []int64{0, 1, 2, -1, 7, math.MaxInt64, math.MinInt64} {
				for kids := range 5 {
					e := api.Expr{Kind: kind, S: s, N: n}
					for range kids {
						e.Kids = append(e.Kids, num(1))
					}
					wanted := known && row.s(s) && row.n(n) && row.kids(kids, s)
					if got := tree.Right(ofExpr(e)); got != wanted {
						t.Errorf("%+v: %t", e, got)
					}
				}
			}
		}
	}
}

// P9.2: what each kind of statement may have, in each way that it may be put together.
func TestRightStatements(t *testing.T) {
	rows := map[api.StmtKind]struct {
		named       bool
		least, most int // expressions
		body, other bool
	}{
		api.SLet: {true, 1, 1, false, false}, api.SSet: {true, 1, 1, false, false}, api.SIf: {false, 1, 1, true, true}, api.SWhile: {false, 1, 1, true, false}, api.SReturn: {false, 1, 1, false, false},
		api.SSend: {true, 1, 100, false, false}, api.SBecome: {true, 0, 100, false, false}, api.SStop: {false, 0, 0, false, false}, api.SExpr: {false, 1, 1, false, false},
	}
	for i := range 256 {
		row, known := rows[api.StmtKind(i)]
		for _, s := range []string{"", "a", "_9", "let", "1", "a ", " a", "\xff"} {
			for exprs := range 4 {
				for _, body := range []int{0, 1, 2} {
					for _, other := range []int{0, 1, 2} {
						for _, line := range []int{0, 1, -1, math.MaxInt, math.MinInt} {
							x := api.Stmt{Kind: api.StmtKind(i), S: s, Exprs: make([]api.Expr, exprs), Body: make([]api.Stmt, body), Else: make([]api.Stmt, other), Line: line}
							for i := range x.Exprs {
								x.Exprs[i] = self()
							}
							for _, list := range [][]api.Stmt{x.Body, x.Else} {
								for i := range list {
									list[i] = st(api.SStop, "")
								}
							}
							wanted := known && row.named == (s == "a" || s == "_9") && (row.named || s == "") && exprs >= row.least && exprs <= row.most && (body == 0 || row.body) && (other == 0 || row.other)
							if got := tree.Right(fn(x)); got != wanted {
								t.Errorf("%+v: %t", x, got)
							}
						}
					}
				}
			}
		}
	}
}

// P9.2: names are those that words tells whole; nothing wrong is right at any place of a program.
func TestRightNames(t *testing.T) {
	long := strings.Repeat("n", mostSource)
	for s, wanted := range map[string]bool{
		"a": true, "_": true, "A": true, "a1": true, "_1": true, "selfs": true, "fn": true, "Self": true, "role": true, long: true,
		"": false, "1": false, "1a": false, "self": false, "actor": false, "become": false, "call": false, "else": false, "false": false, "func": false, "if": false, "len": false, "let": false, "on": false, "return": false, "send": false, "set": false, "spawn": false, "stop": false, "true": false, "while": false,
		" a": false, "a ": false, "\ta": false, "a\n": false, "#a": false, "a#": false, "#\na": false, "a b": false, "a,": false, "a-b": false, "a.b": false, "é": false, "a\xff": false, "\x00": false, "a\x00": false, "\"a\"": false, "+": false, "@": false, long + "n": false,
	} {
		for _, p := range []api.Program{
			{Fns: []api.Body{{Name: s}}}, {Fns: []api.Body{{Name: "f", Params: []string{s}}}}, {Fns: []api.Body{{Name: "f", Params: []string{"a", "b", s}}}}, {Fns: []api.Body{{Name: "f"}, {Name: s}}},
			{Roles: []api.Role{{Name: s}}}, {Roles: []api.Role{{Name: "c", Params: []string{s}}}}, {Roles: []api.Role{{Name: "c"}, {Name: "c", Params: []string{"a", s}}}},
			{Roles: []api.Role{{Name: "c", On: []api.Body{{Name: s}}}}}, {Roles: []api.Role{{Name: "c", On: []api.Body{{Name: "x"}, {Name: "x", Params: []string{"a", s}}}}}},
			fn(st(api.SLet, s, self())), fn(st(api.SSet, s, self())), fn(st(api.SSend, s, self())), fn(st(api.SBecome, s)), ofExpr(name(s)), ofExpr(ex(api.ECall, s)), ofExpr(ex(api.ESpawn, s, self())),
		} {
			if got := tree.Right(p); got != wanted {
				t.Errorf("Right(%s) = %t", short(p), got)
			}
			if !wanted {
				wantUnshown(t, p, api.ErrTree)
			} else if s == long {
				wantUnshown(t, p, api.ErrLong)
			}
		}
	}
}

// P9.2: what is wrong is found wherever it stands.
func TestRightPlaces(t *testing.T) {
	a, stop := name("a"), st(api.SStop, "")
	for _, wrong := range []api.Expr{{}, num(-1), ex(api.ETuple, "", a), op("+", a), {Kind: 12}} {
		for _, e := range []api.Expr{wrong, tuple(wrong, a), tuple(a, wrong), op("-", wrong), op("*", wrong, a), op("*", a, wrong), place(wrong, a), place(a, wrong), length(wrong), ex(api.ECall, "g", a, a, wrong), ex(api.ESpawn, "g", wrong), op("-", op("-", tuple(a, a, place(a, wrong))))} {
			for _, s := range []api.Stmt{
				st(api.SLet, "x", e), st(api.SSet, "x", e), st(api.SReturn, "", e), st(api.SExpr, "", e), st(api.SSend, "x", e), st(api.SSend, "x", a, a, e), st(api.SBecome, "x", a, e),
				{Kind: api.SIf, Exprs: []api.Expr{e}}, {Kind: api.SWhile, Exprs: []api.Expr{e}},
			} {
				wantRight(t, fn(stop, s), false)
				wantRight(t, fn(api.Stmt{Kind: api.SIf, Exprs: []api.Expr{a}, Body: []api.Stmt{stop, s}}), false)
				wantRight(t, fn(api.Stmt{Kind: api.SIf, Exprs: []api.Expr{a}, Else: []api.Stmt{s, stop}}), false)
				wantRight(t, fn(api.Stmt{Kind: api.SWhile, Exprs: []api.Expr{a}, Body: []api.Stmt{s}}), false)
				wantRight(t, api.Program{Fns: []api.Body{{Name: "f"}, {Name: "g", Stmts: []api.Stmt{s}}}}, false)
				wantRight(t, api.Program{Roles: []api.Role{{Name: "c"}, {Name: "d", On: []api.Body{{Name: "x"}, {Name: "y", Stmts: []api.Stmt{s}}}}}}, false)
			}
		}
	}
	wantRight(t, api.Program{Fns: []api.Body{{}}}, false)
	wantRight(t, api.Program{Roles: []api.Role{{}}}, false)
	wantRight(t, fn(api.Stmt{}), false)
	// Lines say nothing, and an empty list is none.
	wantRight(t, api.Program{Fns: []api.Body{{Name: "f", Line: -5, Params: []string{}, Stmts: []api.Stmt{{Kind: api.SStop, Line: math.MinInt, Exprs: []api.Expr{}, Body: []api.Stmt{}, Else: []api.Stmt{}}}}}, Roles: []api.Role{{Name: "c", Line: math.MaxInt, On: []api.Body{}}}}, true)
	wantRight(t, ofExpr(api.Expr{Kind: api.ESelf, Kids: []api.Expr{}}), true)
}

// R1: trees without an end, or of many more parts than there is memory for, are told to be none.
func TestEndless(t *testing.T) {
	ring := make([]api.Expr, 1)
	ring[0] = op("-", ring...)
	ring[0].Kids = ring
	wantEndless(t, ofExpr(ring[0]))
	pair := make([]api.Expr, 2)
	for i := range pair {
		pair[i] = api.Expr{Kind: api.ETuple, Kids: pair}
	}
	wantEndless(t, ofExpr(pair[0]))
	loop := make([]api.Stmt, 1)
	loop[0] = api.Stmt{Kind: api.SWhile, Exprs: []api.Expr{self()}, Body: loop}
	wantEndless(t, fn(loop...))
	fork := make([]api.Stmt, 2)
	for i := range fork {
		fork[i] = api.Stmt{Kind: api.SIf, Exprs: []api.Expr{self()}, Body: fork, Else: fork}
	}
	wantEndless(t, fn(fork...))
	e := num(1)
	for range mostNest - 2 {
		e = tuple(e, e, e, e)
	}
	wantEndless(t, ofExpr(e))
}

// wantEndless tells what Right or Show answered of what is no right program, if it was not that.
func wantEndless(t *testing.T, p api.Program) {
	t.Helper()
	if tree.Right(p) {
		t.Error("a tree without an end is right")
	}
	if s, e := tree.Show(p); s != "" || e != api.ErrTree {
		t.Errorf("a tree without an end is shown: %.100q, %d", s, e)
	}
}

// P9.2: how long a text may be, to the byte.
func TestShowLong(t *testing.T) {
	sized := func(p api.Program, size int) {
		t.Helper()
		if size > mostSource {
			wantUnshown(t, p, api.ErrLong)
			return
		}
		s, e := tree.Show(p)
		if len(s) != size || e != api.OK {
			t.Errorf("a text of %d bytes, %d; want %d", len(s), e, size)
		}
		wantProgram(t, s, p)
	}
	const around = len("func f() {\n\treturn ;\n}\n")
	for size := mostSource - 3; size <= mostSource+3; size++ {
		long := strings.Repeat("n", size)
		sized(ofExpr(name(long[around:])), size)
		sized(ofExpr(text(long[around+2:])), size)
		sized(ofExpr(text("\x00"+long[around+6:])), size)
		sized(ofExpr(ex(api.ECall, long[around+len("call ()"):])), size)
		sized(ofExpr(tuple(name(long[around+len("(, 1)"):]), num(1))), size)
		sized(ofExpr(place(name(long[around+len("[x]"):]), name("x"))), size)
		sized(fn(st(api.SSend, long[len("func f() {\n\tsend self ();\n}\n"):], self())), size)
		sized(fn(st(api.SStop, ""), api.Stmt{Kind: api.SIf, Exprs: []api.Expr{name(long[len("func f() {\n\tstop;\n\tif () {\n\t}\n}\n"):])}}), size)
		sized(api.Program{Fns: []api.Body{{Name: long[len("func () {\n}\n"):]}}}, size)
		sized(api.Program{Fns: []api.Body{{Name: "f", Params: []string{"a", long[len("func f(a, ) {\n}\n"):]}}}}, size)
		sized(api.Program{Roles: []api.Role{{Name: long[len("actor () {\n}\n"):]}}}, size)
		sized(api.Program{Roles: []api.Role{{Name: "c", On: []api.Body{{Name: long[len("actor c() {\n\ton () {\n\t}\n}\n"):]}}}}}, size)
	}
	for _, s := range []string{"\x00", "\xff", "a", "\"", "\n"} {
		for _, n := range []int{mostSource, mostSource - 1, mostSource + 1, 1 << 24} {
			wantUnshown(t, ofExpr(text(strings.Repeat(s, n))), api.ErrLong)
		}
	}
	// What is short behind what is too long does not bring it back.
	wantUnshown(t, fn(st(api.SExpr, "", text(strings.Repeat("a", mostSource))), st(api.SStop, "")), api.ErrLong)
	many := api.Program{}
	for range mostItems {
		many.Fns = append(many.Fns, api.Body{Name: strings.Repeat("f", 600)})
	}
	wantUnshown(t, many, api.ErrLong)
	// ErrTree comes first.
	many.Fns[mostItems-1].Name = "1"
	wantUnshown(t, many, api.ErrTree)
	wantUnshown(t, fn(st(api.SExpr, "", text(strings.Repeat("a", mostSource))), st(api.SStop, "x")), api.ErrTree)
}

// R4: an answer hangs on its argument alone, whatever was asked ahead of it.
func TestAgain(t *testing.T) {
	texts := []string{"func f(a) { return a + 1; }", "func f( { }", "@", strings.Repeat("(", 1000), "actor c() { on x() { send self x((1, 2)); } }", asText(strings.Repeat("-", 300))}
	type answer struct {
		p     api.Program
		f     api.Fault
		s     string
		e     api.Errno
		right bool
	}
	ask := func() (all []answer) {
		for _, text := range texts {
			p, f := tree.Parse(text)
			s, e := tree.Show(p)
			all = append(all, answer{normal(p, true), f, s, e, tree.Right(p)})
		}
		return all
	}
	if first := ask(); !reflect.DeepEqual(first, ask()) {
		t.Error("other answers to the same questions")
	}
}
