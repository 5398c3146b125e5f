package tree_test

import (
	"fmt"
	"reflect"
	"strings"
	"testing"

	"drover/api"
	"drover/tree"
)

// The chapter's limits.
const (
	mostSource = 1 << 15 // bytes of a program
	mostGoing  = 250     // statements and unaries within one another, while a program is read
	mostParts  = 2000
	mostNest   = 40
	mostVars   = 30
	mostItems  = 60
)

// What expressions and statements are made by.

func ex(kind api.ExprKind, s string, kids ...api.Expr) api.Expr {
	return api.Expr{Kind: kind, S: s, Kids: kids}
}

func num(n int64) api.Expr                { return api.Expr{Kind: api.EInt, N: n} }
func truth(n int64) api.Expr              { return api.Expr{Kind: api.ETruth, N: n} }
func text(s string) api.Expr              { return ex(api.EText, s) }
func name(s string) api.Expr              { return ex(api.EName, s) }
func self() api.Expr                      { return ex(api.ESelf, "") }
func tuple(kids ...api.Expr) api.Expr     { return ex(api.ETuple, "", kids...) }
func op(s string, k ...api.Expr) api.Expr { return ex(api.EOp, s, k...) }
func place(of, at api.Expr) api.Expr      { return ex(api.EAt, "", of, at) }
func length(of api.Expr) api.Expr         { return ex(api.ELen, "", of) }

func st(kind api.StmtKind, s string, exprs ...api.Expr) api.Stmt {
	return api.Stmt{Kind: kind, S: s, Exprs: exprs}
}

// fn is a program of one function f with these statements.
func fn(stmts ...api.Stmt) api.Program {
	return api.Program{Fns: []api.Body{{Name: "f", Stmts: stmts}}}
}

// ofExpr is a program of one function that answers e.
func ofExpr(e api.Expr) api.Program {
	return fn(st(api.SReturn, "", e))
}

// asText is the text of a function f that answers that expression.
func asText(expr string) string {
	return "func f() { return " + expr + "; }"
}

// normal is a program in memory of its own, with nothing in place of empty lists, and with its lines only if they are asked for.
func normal(p api.Program, lines bool) api.Program {
	line := func(n int) int {
		if lines {
			return n
		}
		return 0
	}
	var exprs func(list []api.Expr) []api.Expr
	exprs = func(list []api.Expr) (all []api.Expr) {
		for _, e := range list {
			e.Kids = exprs(e.Kids)
			all = append(all, e)
		}
		return all
	}
	var stmts func(list []api.Stmt) []api.Stmt
	stmts = func(list []api.Stmt) (all []api.Stmt) {
		for _, s := range list {
			s.Exprs, s.Body, s.Else, s.Line = exprs(s.Exprs), stmts(s.Body), stmts(s.Else), line(s.Line)
			all = append(all, s)
		}
		return all
	}
	bodies := func(list []api.Body) (all []api.Body) {
		for _, b := range list {
			b.Params, b.Stmts, b.Line = append([]string(nil), b.Params...), stmts(b.Stmts), line(b.Line)
			all = append(all, b)
		}
		return all
	}
	all := api.Program{Fns: bodies(p.Fns)}
	for _, r := range p.Roles {
		r.Params, r.On, r.Line = append([]string(nil), r.Params...), bodies(r.On), line(r.Line)
		all.Roles = append(all.Roles, r)
	}
	return all
}

// short is v as a text that is not too long to be read.
func short(v any) string {
	s := fmt.Sprintf("%+v", v)
	if len(s) > 600 {
		return s[:600] + ".."
	}
	return s
}

// wantFault tells what Parse answered, if it was not that fault and nothing else.
func wantFault(t *testing.T, text string, e api.Errno, line int) {
	t.Helper()
	p, f := tree.Parse(text)
	if f != (api.Fault{Err: e, Line: line}) || p.Fns != nil || p.Roles != nil {
		t.Errorf("Parse(%.300q) = %s, %v; want the fault %d in line %d alone", text, short(p), f, e, line)
	}
}

// wantProgram tells what Parse answered, if it was not that program (but for its lines), which is right.
func wantProgram(t *testing.T, text string, p api.Program) {
	t.Helper()
	got, f := tree.Parse(text)
	if f != (api.Fault{}) || !reflect.DeepEqual(normal(got, false), normal(p, false)) {
		t.Errorf("Parse(%.300q) = %s, %v; want %s", text, short(got), f, short(p))
	}
	if !tree.Right(got) {
		t.Errorf("Parse(%.300q) is not right", text)
	}
}

// wantExpr tells what Parse answered of a function that answers that expression, if it was not e.
func wantExpr(t *testing.T, expr string, e api.Expr) {
	t.Helper()
	wantProgram(t, asText(expr), ofExpr(e))
}

// wantShown tells what Show answered, if it was not that text, or if that is not parsed to the same.
func wantShown(t *testing.T, p api.Program, text string) {
	t.Helper()
	if got, e := tree.Show(p); got != text || e != api.OK {
		t.Errorf("Show(%s) = %.600q, %d; want %.600q", short(p), got, e, text)
	}
	wantProgram(t, text, p)
}

// wantUnshown tells what Show answered, if it was not that error alone.
func wantUnshown(t *testing.T, p api.Program, wanted api.Errno) {
	t.Helper()
	if got, e := tree.Show(p); got != "" || e != wanted {
		t.Errorf("Show(%s) = %.100q, %d; want the error %d", short(p), got, e, wanted)
	}
}

// wantRight tells whether p is right, if that is not as wanted; Show is held against it, too.
func wantRight(t *testing.T, p api.Program, wanted bool) {
	t.Helper()
	if got := tree.Right(p); got != wanted {
		t.Errorf("Right(%s) = %t", short(p), got)
	}
	if !wanted {
		wantUnshown(t, p, api.ErrTree)
	}
}

// The chapter's examples.
func TestExamples(t *testing.T) {
	first := api.Program{Fns: []api.Body{{Name: "f", Params: []string{"a"}, Stmts: []api.Stmt{
		st(api.SReturn, "", op("+", name("a"), op("*", num(1), num(2)))),
	}}}}
	wantProgram(t, "func f(a) { return a + 1 * 2; }", first)
	wantShown(t, first, "func f(a) {\n\treturn a + (1 * 2);\n}\n")
	wantProgram(t, "actor c(n) { on add(x) { set n = n + x; send x[0] done(n, ()); } }", api.Program{Roles: []api.Role{{
		Name: "c", Params: []string{"n"}, On: []api.Body{{Name: "add", Params: []string{"x"}, Stmts: []api.Stmt{
			st(api.SSet, "n", op("+", name("n"), name("x"))),
			st(api.SSend, "done", place(name("x"), num(0)), name("n"), tuple()),
		}}},
	}}})
	wantFault(t, "func f( { }", api.ErrSyntax, 1)
}

// P9.1: what each kind of expression says.
func TestParseExpressions(t *testing.T) {
	a, b, c, d := name("a"), name("b"), name("c"), name("d")
	for expr, e := range map[string]api.Expr{
		"0": num(0), "007": num(7), "9223372036854775807": num(1<<63 - 1), "true": truth(1), "false": truth(0),
		`""`: text(""), `"a\n\x00\"\\é"`: text("a\n\x00\"\\é"), "self": self(), "_": name("_"), "selfs": name("selfs"),
		"()": tuple(), "(a)": a, "((a))": a, "(((())))": tuple(), "(a, b)": tuple(a, b), "(a,b,c)": tuple(a, b, c), "((a, b), ())": tuple(tuple(a, b), tuple()),
		"-a": op("-", a), "!a": op("!", a), "--a": op("-", op("-", a)), "-!-a": op("-", op("!", op("-", a))), "-1": op("-", num(1)), "- (a)": op("-", a),
		"a[b]": place(a, b), "a[b][c]": place(place(a, b), c), "a[b[c]]": place(a, place(b, c)), "(a)[b]": place(a, b), "()[0]": place(tuple(), num(0)),
		"1[2]": place(num(1), num(2)), `"x"[0]`: place(text("x"), num(0)), "true[false]": place(truth(1), truth(0)), "self[self]": place(self(), self()),
		"len(a)": length(a), "len((a))": length(a), "len(())": length(tuple()), "len(a)[0]": place(length(a), num(0)), "len((a, b))": length(tuple(a, b)), "len(a + b)": length(op("+", a, b)),
		"call f()": ex(api.ECall, "f"), "call f(a)": ex(api.ECall, "f", a), "call f((a))": ex(api.ECall, "f", a), "call f(())": ex(api.ECall, "f", tuple()), "call f(a, b || c)[0]": place(ex(api.ECall, "f", a, op("||", b, c)), num(0)),
		"spawn c()": ex(api.ESpawn, "c"), "spawn c(a, (b, c))": ex(api.ESpawn, "c", a, tuple(b, c)), "-spawn c()": op("-", ex(api.ESpawn, "c")), "-a[b]": op("-", place(a, b)), "(-a)[b]": place(op("-", a), b),
		"-call f()[0]": op("-", place(ex(api.ECall, "f"), num(0))), "a[b + c]": place(a, op("+", b, c)), "(a + b)[c]": place(op("+", a, b), c), "a + b[c]": op("+", a, place(b, c)),
		"a - b - c": op("-", op("-", a, b), c), "a - (b - c)": op("-", a, op("-", b, c)), "a - -b": op("-", a, op("-", b)), "a--b": op("-", a, op("-", b)), "-a - b": op("-", op("-", a), b), "-(a - b)": op("-", op("-", a, b)),
		"a ++ b ++ c": op("++", op("++", a, b), c), "a+++b++": {}, "a ++ b + c - d": op("-", op("+", op("++", a, b), c), d), "a * b / c % d": op("%", op("/", op("*", a, b), c), d),
		"a + b * c": op("+", a, op("*", b, c)), "a * b + c": op("+", op("*", a, b), c), "(a + b) * c": op("*", op("+", a, b), c), "a * (b + c)": op("*", a, op("+", b, c)), "!a * !b": op("*", op("!", a), op("!", b)),
		"a == b": op("==", a, b), "a + b < c * d": op("<", op("+", a, b), op("*", c, d)), "(a < b) < c": op("<", op("<", a, b), c), "a < (b < c)": op("<", a, op("<", b, c)), "!a == b": op("==", op("!", a), b), "!(a == b)": op("!", op("==", a, b)),
		"a || b && c": op("||", a, op("&&", b, c)), "a && b || c": op("||", op("&&", a, b), c), "a || b || c": op("||", op("||", a, b), c), "a && b && c": op("&&", op("&&", a, b), c), "(a || b) && c": op("&&", op("||", a, b), c), "a || (b || c)": op("||", a, op("||", b, c)),
		"a != b && c >= d": op("&&", op("!=", a, b), op(">=", c, d)), "a < b == c": {}, "a == b == c": {}, "a < b < c": {}, "a b": {}, "(a,)": {}, "(,a)": {}, "(,)": {}, "(a": {}, "a)": {}, "a[]": {}, "a[b": {}, "[a]": {}, "a]": {}, "a[b, c]": {},
		"len a": {}, "len()": {}, "len(a, b)": {}, "len": {}, "call f": {}, "call": {}, "call (a)": {}, "call 1()": {}, "call self()": {}, "f(a)": {}, "spawn c": {}, "spawn \"c\"()": {}, "call f(a,)": {}, "call f(,)": {}, "call f(a b)": {},
		"+a": {}, "*a": {}, "a +": {}, "a + * b": {}, "a -": {}, "-": {}, "!": {}, "a ! b": {}, "a = b": {}, "a & b": {}, "let": {}, "on": {}, "actor": {}, "func": {}, "else": {}, "true()": {}, "1 2": {}, "{}": {}, "a;": {}, ",": {}, "": {}, "a && || b": {}, "&& a": {},
	} {
		if e.Kind != 0 {
			wantExpr(t, expr, e)
			continue
		}
		if _, f := tree.Parse(asText(expr)); f.Err != api.ErrSyntax && f.Err != api.ErrToken || f.Line != 1 {
			t.Errorf("Parse of the expression %q: %v", expr, f)
		}
	}
}

// P9.1: each operation by itself, beside each other one: which binds first.
func TestParseOperations(t *testing.T) {
	levels := [][]string{{"||"}, {"&&"}, {"==", "!=", "<=", ">=", "<", ">"}, {"+", "-", "++"}, {"*", "/", "%"}}
	a, b, c := name("a"), name("b"), name("c")
	for i, first := range levels {
		for _, x := range first {
			wantExpr(t, "a "+x+" b", op(x, a, b))
			wantExpr(t, "a"+x+"b", op(x, a, b))
			wantExpr(t, "!a "+x+" - b", op(x, op("!", a), op("-", b)))
			wantExpr(t, "!(a "+x+" b)", op("!", op(x, a, b)))
			wantExpr(t, "a[b "+x+" c]", place(a, op(x, b, c)))
			for j, second := range levels {
				for _, y := range second {
					expr := "a " + x + " b " + y + " c"
					switch {
					case i == 2 && j == 2:
						wantFault(t, asText("a "+x+" b\n"+y+" c"), api.ErrSyntax, 2)
					case i >= j:
						wantExpr(t, expr, op(y, op(x, a, b), c))
					default:
						wantExpr(t, expr, op(x, a, op(y, b, c)))
					}
					wantExpr(t, "(a "+x+" b) "+y+" c", op(y, op(x, a, b), c))
					wantExpr(t, "a "+x+" (b "+y+" c)", op(x, a, op(y, b, c)))
				}
			}
		}
	}
}

// P9.1: what each kind of statement says.
func TestParseStatements(t *testing.T) {
	a, b, c := name("a"), name("b"), name("c")
	stop := st(api.SStop, "")
	for stmts, wanted := range map[string][]api.Stmt{
		"":                {},
		"let a = b;":      {st(api.SLet, "a", b)},
		"let a = b == c;": {st(api.SLet, "a", op("==", b, c))},
		"set a = b;":      {st(api.SSet, "a", b)},
		"set a = (b, c);": {st(api.SSet, "a", tuple(b, c))},
		"return a;":       {st(api.SReturn, "", a)},
		"return ();":      {st(api.SReturn, "", tuple())},
		"stop;":           {stop},
		"stop; stop;":     {stop, stop},
		"a;":              {st(api.SExpr, "", a)},
		"-a;":             {st(api.SExpr, "", op("-", a))},
		"(a, b);":         {st(api.SExpr, "", tuple(a, b))},
		"call g(a);":      {st(api.SExpr, "", ex(api.ECall, "g", a))},
		"spawn g(a);":     {st(api.SExpr, "", ex(api.ESpawn, "g", a))},
		"len(a); self;":   {st(api.SExpr, "", length(a)), st(api.SExpr, "", self())},
		"true; 1; \"\";":  {st(api.SExpr, "", truth(1)), st(api.SExpr, "", num(1)), st(api.SExpr, "", text(""))},

		"send a go();":             {st(api.SSend, "go", a)},
		"send a go(b);":            {st(api.SSend, "go", a, b)},
		"send self go(a, b, c);":   {st(api.SSend, "go", self(), a, b, c)},
		"send a[b] go((c));":       {st(api.SSend, "go", place(a, b), c)},
		"send (a) go(());":         {st(api.SSend, "go", a, tuple())},
		"send (a + b) go();":       {st(api.SSend, "go", op("+", a, b))},
		"send (-a) go(-b);":        {st(api.SSend, "go", op("-", a), op("-", b))},
		"send () go();":            {st(api.SSend, "go", tuple())},
		"send call g(a) go(b);":    {st(api.SSend, "go", ex(api.ECall, "g", a), b)},
		"send spawn g()[a] go(b);": {st(api.SSend, "go", place(ex(api.ESpawn, "g"), a), b)},
		"become c();":              {st(api.SBecome, "c")},
		"become c(a, b);":          {st(api.SBecome, "c", a, b)},

		"if (a) { }":                          {{Kind: api.SIf, Exprs: []api.Expr{a}}},
		"if (a) { } else { }":                 {{Kind: api.SIf, Exprs: []api.Expr{a}}},
		"if (a) { stop; }":                    {{Kind: api.SIf, Exprs: []api.Expr{a}, Body: []api.Stmt{stop}}},
		"if (a) { } else { stop; }":           {{Kind: api.SIf, Exprs: []api.Expr{a}, Else: []api.Stmt{stop}}},
		"if (a) { stop; } else { b; c; }":     {{Kind: api.SIf, Exprs: []api.Expr{a}, Body: []api.Stmt{stop}, Else: []api.Stmt{st(api.SExpr, "", b), st(api.SExpr, "", c)}}},
		"if (a) { } stop;":                    {{Kind: api.SIf, Exprs: []api.Expr{a}}, stop},
		"if ((a, b)) { }":                     {{Kind: api.SIf, Exprs: []api.Expr{tuple(a, b)}}},
		"if (a) { if (b) { } else { stop; }}": {{Kind: api.SIf, Exprs: []api.Expr{a}, Body: []api.Stmt{{Kind: api.SIf, Exprs: []api.Expr{b}, Else: []api.Stmt{stop}}}}},
		"if (a) { } else { if (b) { } }":      {{Kind: api.SIf, Exprs: []api.Expr{a}, Else: []api.Stmt{{Kind: api.SIf, Exprs: []api.Expr{b}}}}},
		"while (a) { }":                       {{Kind: api.SWhile, Exprs: []api.Expr{a}}},
		"while (a) { stop; } stop;":           {{Kind: api.SWhile, Exprs: []api.Expr{a}, Body: []api.Stmt{stop}}, stop},
	} {
		wantProgram(t, "func f() {"+stmts+"}", fn(wanted...))
		wantProgram(t, "actor r() { on f() {"+stmts+"} }", api.Program{Roles: []api.Role{{Name: "r", On: []api.Body{{Name: "f", Stmts: wanted}}}}})
	}
}

// P9.1: functions and roles, in whichever order they stand.
func TestParsePrograms(t *testing.T) {
	stop := []api.Stmt{st(api.SStop, "")}
	for text, p := range map[string]api.Program{
		"":              {},
		" # nothing\n ": {},
		"func f() { }":  {Fns: []api.Body{{Name: "f"}}},
		"func f(a) { }": {Fns: []api.Body{{Name: "f", Params: []string{"a"}}}},
		"func f(a, b, a) { stop; }func g(){stop;}": {Fns: []api.Body{{Name: "f", Params: []string{"a", "b", "a"}, Stmts: stop}, {Name: "g", Stmts: stop}}},
		"actor c() { }":     {Roles: []api.Role{{Name: "c"}}},
		"actor c(a, b) { }": {Roles: []api.Role{{Name: "c", Params: []string{"a", "b"}}}},
		"actor c() { on a(x) { } on b() { stop; } }": {Roles: []api.Role{{Name: "c", On: []api.Body{{Name: "a", Params: []string{"x"}}, {Name: "b", Stmts: stop}}}}},
		"actor c() { } func f() { } actor d() { } func c() { } actor c() { }": {
			Fns: []api.Body{{Name: "f"}, {Name: "c"}}, Roles: []api.Role{{Name: "c"}, {Name: "d"}, {Name: "c"}},
		},
	} {
		wantProgram(t, text, p)
	}
}

// P9.1: lines are those of the first tokens.
func TestParseLines(t *testing.T) {
	program := strings.Join([]string{
		"# a remark",             // 1
		"func",                   // 2
		"f(a)",                   // 3
		"{ let",                  // 4
		"x = 1; set x = 2;",      // 5
		"if",                     // 6
		"(x) { stop;",            // 7
		"} else {",               // 8
		"(",                      // 9
		"a); }",                  // 10
		"while (a) { -",          // 11
		"a; } } func g() { 1",    // 12
		"+ 2; return",            // 13
		"1; }",                   // 14
		"actor",                  // 15
		"c() { on a() { }",       // 16
		"on",                     // 17
		"b() { send self",        // 18
		"a(); become c(); } }",   // 19
		"actor d() { } func h()", // 20
		"{ }",                    // 21
	}, "\n")
	p, f := tree.Parse(program)
	if f != (api.Fault{}) {
		t.Fatal(f)
	}
	var lines []int
	var stmts func(list []api.Stmt)
	stmts = func(list []api.Stmt) {
		for _, s := range list {
			lines = append(lines, s.Line)
			stmts(s.Body)
			stmts(s.Else)
		}
	}
	bodies := func(list []api.Body) {
		for _, b := range list {
			lines = append(lines, b.Line)
			stmts(b.Stmts)
		}
	}
	bodies(p.Fns)
	for _, r := range p.Roles {
		lines = append(lines, r.Line)
		bodies(r.On)
	}
	if wanted := []int{2, 4, 5, 6, 7, 9, 11, 11, 12, 12, 13, 20, 15, 16, 17, 18, 19, 20}; !reflect.DeepEqual(lines, wanted) {
		t.Errorf("lines %v; want %v", lines, wanted)
	}
}

// P9.1: the first fault, and its line.
func TestParseFaults(t *testing.T) {
	for _, c := range []struct {
		text string
		err  api.Errno
		line int
	}{
		{"func", api.ErrSyntax, 1}, {"func\n", api.ErrSyntax, 2}, {"actor a() {\nlet", api.ErrSyntax, 2}, {"func f() {", api.ErrSyntax, 1}, {"func f() {\n\n", api.ErrSyntax, 3},
		{"x", api.ErrSyntax, 1}, {"\n;", api.ErrSyntax, 2}, {"on f() { }", api.ErrSyntax, 1}, {"stop;", api.ErrSyntax, 1}, {"func f() { } }", api.ErrSyntax, 1}, {"func f() { };", api.ErrSyntax, 1},
		{"func 1() { }", api.ErrSyntax, 1}, {"func self() { }", api.ErrSyntax, 1}, {"func \"f\"() { }", api.ErrSyntax, 1}, {"func f { }", api.ErrSyntax, 1}, {"func f()\n;", api.ErrSyntax, 2}, {"func f(a b) { }", api.ErrSyntax, 1},
		{"func f(a,) { }", api.ErrSyntax, 1}, {"func f(,) { }", api.ErrSyntax, 1}, {"func f(1) { }", api.ErrSyntax, 1}, {"func f(len) { }", api.ErrSyntax, 1}, {"func f((a)) { }", api.ErrSyntax, 1}, {"func f(\"a\") { }", api.ErrSyntax, 1},
		{"actor c() { func f() { } }", api.ErrSyntax, 1}, {"actor c() { on a() { } stop; }", api.ErrSyntax, 1}, {"actor c() { on a { } }", api.ErrSyntax, 1}, {"actor c() on", api.ErrSyntax, 1}, {"actor c() { on on() { } }", api.ErrSyntax, 1}, {"actor c { }", api.ErrSyntax, 1},
		{"func f() { send a + b go(); }", api.ErrSyntax, 1}, {"func f() { send -a go(); }", api.ErrSyntax, 1}, {"func f() { send a; }", api.ErrSyntax, 1}, {"func f() { send a go; }", api.ErrSyntax, 1}, {"func f() { send a let(); }", api.ErrSyntax, 1}, {"func f() { send go(); }", api.ErrSyntax, 1},
		{"func f() { let 1 = 2; }", api.ErrSyntax, 1}, {"func f() { let a == 2; }", api.ErrSyntax, 1}, {"func f() { let a; }", api.ErrSyntax, 1}, {"func f() { a = 2; }", api.ErrSyntax, 1}, {"func f() { set a[0] = 2; }", api.ErrSyntax, 1}, {"func f() { return; }", api.ErrSyntax, 1},
		{"func f() { if a { } }", api.ErrSyntax, 1}, {"func f() { if () { } stop }", api.ErrSyntax, 1}, {"func f() { if (a) stop; }", api.ErrSyntax, 1}, {"func f() { if (a) { } else stop; }", api.ErrSyntax, 1}, {"func f() { if (a) { } else if (b) { } }", api.ErrSyntax, 1},
		{"func f() { if (a) { }; }", api.ErrSyntax, 1}, {"func f() { else { } }", api.ErrSyntax, 1}, {"func f() { while (a) { } else { } }", api.ErrSyntax, 1}, {"func f() { while (a, b) { } }", api.ErrSyntax, 1}, {"func f() { { } }", api.ErrSyntax, 1}, {"func f() { ; }", api.ErrSyntax, 1},
		{"func f() { become c; }", api.ErrSyntax, 1}, {"func f() { become (c)(); }", api.ErrSyntax, 1}, {"func f() { stop(); }", api.ErrSyntax, 1}, {"func f() { stop\n}", api.ErrSyntax, 2}, {"func f() { let a = 1\n\nlet b = 2; }", api.ErrSyntax, 3},
		// A text is no sign, key or name, whatever it says.
		{"\"func\" f() { }", api.ErrSyntax, 1}, {"func f\"(\") { }", api.ErrSyntax, 1}, {"func f() { 1 \"+\" 2; }", api.ErrSyntax, 1}, {"func f() { \"stop\"; }", api.OK, 0}, {"func f() { stop \";\" }", api.ErrSyntax, 1}, {"func f() { \"-\" 1; }", api.ErrSyntax, 1},
		// Words' faults, as they are met.
		{"@", api.ErrToken, 1}, {"\n\n @", api.ErrToken, 3}, {"func @", api.ErrToken, 1}, {"func f() { \"\n\"; }", api.ErrToken, 1}, {"func f() { 1\n9223372036854775808; }", api.ErrToken, 2}, {"func f() { } \"", api.ErrToken, 1}, {"func f() { } # @", api.OK, 0},
		{"x @", api.ErrSyntax, 1}, {"x\n@", api.ErrSyntax, 1}, {"func\n@ @", api.ErrToken, 2}, {"func f() { a\n@", api.ErrToken, 2}, {"func f() { a }\n@", api.ErrSyntax, 1}, {"func f() { }\n@", api.ErrToken, 2}, {"func f() { } }\n@", api.ErrSyntax, 1}, {"func f() { a & b; }", api.ErrToken, 1},
		{strings.Repeat(" ", mostSource+1), api.ErrLong, 0}, {strings.Repeat("@", mostSource+1), api.ErrLong, 0}, {strings.Repeat(" ", mostSource), api.OK, 0}, {strings.Repeat("\n", mostSource-1) + "x", api.ErrSyntax, mostSource}, {strings.Repeat("\n", mostSource-1) + "@", api.ErrToken, mostSource},
	} {
		if _, f := tree.Parse(c.text); f != (api.Fault{Err: c.err, Line: c.line}) {
			t.Errorf("Parse(%.100q): %v; want %d in line %d", c.text, f, c.err, c.line)
		}
		if c.err != api.OK {
			wantFault(t, c.text, c.err, c.line)
		}
	}
}

// P9.2: each kind of what there is, shown.
func TestShow(t *testing.T) {
	a, b, c := name("a"), name("b"), name("c")
	wantShown(t, api.Program{}, "")
	wantShown(t, api.Program{Fns: []api.Body{}, Roles: []api.Role{}}, "")
	for _, x := range []struct {
		e     api.Expr
		shown string
	}{
		{num(0), "0"}, {num(1<<63 - 1), "9223372036854775807"}, {truth(0), "false"}, {truth(1), "true"}, {text(""), `""`}, {text("a\"\\\n\x00\xff~"), `"a\"\\\n\x00\xff~"`}, {a, "a"}, {self(), "self"},
		{tuple(), "()"}, {tuple(a, b), "(a, b)"}, {tuple(op("-", a), tuple(), tuple(b, c)), "(- a, (), (b, c))"}, {tuple(op("+", a, b), op("!", c)), "(a + b, ! c)"},
		{op("-", a), "- a"}, {op("!", a), "! a"}, {op("-", op("-", a)), "- (- a)"}, {op("!", op("+", a, b)), "! (a + b)"}, {op("-", num(1)), "- 1"}, {op("-", place(a, b)), "- a[b]"}, {op("-", tuple()), "- ()"},
		{op("-", op("-", a, b), c), "(a - b) - c"}, {op("-", a, op("-", b, c)), "a - (b - c)"}, {op("*", op("-", a), op("!", b)), "(- a) * (! b)"}, {op("<", op("<", a, b), c), "(a < b) < c"}, {op("||", op("&&", a, b), op("==", b, c)), "(a && b) || (b == c)"},
		{op("++", text("x"), tuple(a, b)), "\"x\" ++ (a, b)"}, {op("+", length(op("+", a, b)), ex(api.ECall, "g", op("+", a, b))), "len(a + b) + call g(a + b)"},
		{place(a, b), "a[b]"}, {place(op("+", a, b), op("+", b, c)), "(a + b)[b + c]"}, {place(op("-", a), op("-", b)), "(- a)[- b]"}, {place(place(a, b), place(b, c)), "a[b][b[c]]"}, {place(num(1), num(2)), "1[2]"}, {place(tuple(), self()), "()[self]"}, {place(length(a), truth(0)), "len(a)[false]"},
		{length(a), "len(a)"}, {length(op("-", a)), "len(- a)"}, {length(tuple(a, b)), "len((a, b))"}, {ex(api.ECall, "g"), "call g()"}, {ex(api.ECall, "g", a, op("-", b), tuple()), "call g(a, - b, ())"}, {ex(api.ESpawn, "g"), "spawn g()"}, {ex(api.ESpawn, "g", op("*", a, b), c), "spawn g(a * b, c)"},
	} {
		wantShown(t, ofExpr(x.e), "func f() {\n\treturn "+x.shown+";\n}\n")
		wantShown(t, fn(st(api.SLet, "v", x.e)), "func f() {\n\tlet v = "+x.shown+";\n}\n")
		wantShown(t, fn(st(api.SSet, "v", x.e)), "func f() {\n\tset v = "+x.shown+";\n}\n")
		wantShown(t, fn(st(api.SExpr, "", x.e)), "func f() {\n\t"+x.shown+";\n}\n")
		wantShown(t, fn(st(api.SBecome, "c", x.e, x.e)), "func f() {\n\tbecome c("+x.shown+", "+x.shown+");\n}\n")
		wantShown(t, fn(api.Stmt{Kind: api.SIf, Exprs: []api.Expr{x.e}}), "func f() {\n\tif ("+x.shown+") {\n\t}\n}\n")
		wantShown(t, fn(api.Stmt{Kind: api.SWhile, Exprs: []api.Expr{x.e}}), "func f() {\n\twhile ("+x.shown+") {\n\t}\n}\n")
		to := x.shown
		if x.e.Kind == api.EOp {
			to = "(" + to + ")"
		}
		wantShown(t, fn(st(api.SSend, "go", x.e)), "func f() {\n\tsend "+to+" go();\n}\n")
		wantShown(t, fn(st(api.SSend, "go", x.e, x.e, x.e)), "func f() {\n\tsend "+to+" go("+x.shown+", "+x.shown+");\n}\n")
	}
}

// P9.2: lines and levels, functions ahead of roles.
func TestShowLines(t *testing.T) {
	a, stop := name("a"), st(api.SStop, "")
	inner := api.Stmt{Kind: api.SWhile, Exprs: []api.Expr{a}, Body: []api.Stmt{{Kind: api.SIf, Exprs: []api.Expr{op("!", a)}, Body: []api.Stmt{stop}, Else: []api.Stmt{stop, stop}}}}
	wantShown(t, api.Program{
		Fns: []api.Body{{Name: "f"}, {Name: "g", Params: []string{"a", "b"}, Stmts: []api.Stmt{inner, {Kind: api.SIf, Exprs: []api.Expr{a}, Else: []api.Stmt{inner}}}}},
		Roles: []api.Role{{Name: "c"}, {Name: "d", Params: []string{"a"}, On: []api.Body{
			{Name: "x"}, {Name: "y", Params: []string{"b", "c", "d"}, Stmts: []api.Stmt{{Kind: api.SIf, Exprs: []api.Expr{a}, Body: []api.Stmt{stop}, Else: []api.Stmt{}}, st(api.SBecome, "c")}},
		}}},
	}, strings.Join([]string{
		"func f() {",
		"}",
		"func g(a, b) {",
		"\twhile (a) {",
		"\t\tif (! a) {",
		"\t\t\tstop;",
		"\t\t} else {",
		"\t\t\tstop;",
		"\t\t\tstop;",
		"\t\t}",
		"\t}",
		"\tif (a) {",
		"\t} else {",
		"\t\twhile (a) {",
		"\t\t\tif (! a) {",
		"\t\t\t\tstop;",
		"\t\t\t} else {",
		"\t\t\t\tstop;",
		"\t\t\t\tstop;",
		"\t\t\t}",
		"\t\t}",
		"\t}",
		"}",
		"actor c() {",
		"}",
		"actor d(a) {",
		"\ton x() {",
		"\t}",
		"\ton y(b, c, d) {",
		"\t\tif (a) {",
		"\t\t\tstop;",
		"\t\t}",
		"\t\tbecome c();",
		"\t}",
		"}",
		"",
	}, "\n"))
}

// R3: what is handed in stays, and no two lists of an answer share memory.
func TestMemory(t *testing.T) {
	const program = "func f(a, b, c) { let x = (a, b, c); send x[0] go(a, call f(1, 2, 3)); if (a) { stop; stop; stop; } else { stop; stop; stop; } } func g(a, b, c) { a + b + c; } actor c(a, b, c) { on x(a, b, c) { } on y() { stop; } on z() { } } actor d(a, b, c) { }"
	p, _ := tree.Parse(program)
	before := normal(p, true)
	text, _ := tree.Show(p)
	tree.Right(p)
	if !reflect.DeepEqual(normal(p, true), before) {
		t.Error("what was handed in has changed")
	}
	var exprs func(list []api.Expr)
	exprs = func(list []api.Expr) {
		for i := range list {
			exprs(list[i].Kids)
		}
		fill(list, api.Expr{S: "x"})
	}
	var stmts func(list []api.Stmt)
	stmts = func(list []api.Stmt) {
		for i := range list {
			exprs(list[i].Exprs)
			stmts(list[i].Body)
			stmts(list[i].Else)
		}
		fill(list, api.Stmt{S: "x"})
	}
	bodies := func(list []api.Body) {
		for i := range list {
			fill(list[i].Params, "?")
			stmts(list[i].Stmts)
		}
		fill(list, api.Body{Name: "x"})
	}
	bodies(p.Fns)
	for i := range p.Roles {
		fill(p.Roles[i].Params, "?")
		bodies(p.Roles[i].On)
	}
	fill(p.Roles, api.Role{Name: "x"})
	if !reflect.DeepEqual(normal(p, true), before) {
		t.Error("lists of an answer share their memory")
	}
	p.Fns[0].Params[0], p.Fns[0].Stmts[0].Exprs[0].Kids[0].S = "z", "z"
	if again, _ := tree.Parse(program); !reflect.DeepEqual(normal(again, true), before) {
		t.Error("two answers share their memory")
	}
	if again, _ := tree.Show(before); again != text {
		t.Error("another text of the same program")
	}
}

// fill writes x into all the spare room of a list.
func fill[T any](list []T, x T) {
	spare := list[len(list):cap(list)]
	for i := range spare {
		spare[i] = x
	}
}
