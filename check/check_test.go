package check_test

import (
	"fmt"
	"reflect"
	"strings"
	"testing"

	"drover/api"
	"drover/check"
	"drover/tree"
)

// The chapter's limits.
const (
	mostParts = 2000
	mostNest  = 40
	mostVars  = 30
	mostItems = 60
)

// parsed is the program that text says.
func parsed(t *testing.T, text string) api.Program {
	t.Helper()
	p, f := tree.Parse(text)
	if f != (api.Fault{}) {
		t.Fatalf("Parse(%.300q): %v", text, f)
	}
	return p
}

// want tells what Check answers of a text's program, if it is not that fault, and whether it changes it.
func want(t *testing.T, text string, e api.Errno, line int) {
	t.Helper()
	p := parsed(t, text)
	if f := check.Check(p); f != (api.Fault{Err: e, Line: line}) {
		t.Errorf("Check of %.600q = %v; want %d in line %d", text, f, e, line)
	}
	if !reflect.DeepEqual(p, parsed(t, text)) {
		t.Errorf("Check of %.600q changes it", text)
	}
}

// wantOK wants no fault.
func wantOK(t *testing.T, text string) {
	t.Helper()
	want(t, text, api.OK, 0)
}

// names is so many names that begin with that letter.
func names(letter string, many int) string {
	var all []string
	for i := range many {
		all = append(all, fmt.Sprint(letter, i))
	}
	return strings.Join(all, ", ")
}

// lets is so many statements, each in a line of its own, that let such names.
func lets(letter string, many int) string {
	var all strings.Builder
	for i := range many {
		fmt.Fprintf(&all, "\nlet %s%d = 0;", letter, i)
	}
	return all.String()
}

// The chapter's examples.
func TestExamples(t *testing.T) {
	wantOK(t, "func f(a) { return a; }")
	want(t, "func f(a, a) { }", api.ErrTwice, 1)
	want(t, "func f() { return x; }", api.ErrName, 1)
	want(t, "func f() { call f(1); }", api.ErrArity, 1)
	want(t, "func f() { stop; }", api.ErrPlace, 1)
	want(t, "actor c(n) { on go(n) { } }", api.ErrTwice, 1)
	want(t, "actor c(n) { on go(x) { if (x) { let y = 1; } set y = 2; } }", api.ErrName, 1)
}

// P10.1: programs without a fault: what is used may stand behind its use, and names of one sort may be those of another.
func TestOK(t *testing.T) {
	for _, text := range []string{
		"", "func f() { }", "actor c() { }", "actor c(n) { on go() { } }",
		"func f(a) { return call f(a); }", "func f() { call g(1); }\nfunc g(a) { return call f(); }",
		"func f() { spawn c(1); }\nactor c(n) { on go() { let k = spawn d(); become d(); } }\nactor d() { on go() { become c(0); } }",
		"actor c(n) { on go(x) { let y = x + n; set n = y; set x = n; send self go(y); send y any(n, x); become c(y); } }",
		"func f() { send self go(); return self; }", "func f(a) { send a go(self, a); }", "actor c() { on go() { self; stop; become c(); stop; } }",
		// Functions, roles, tags and variables have their names apart.
		"func a(a) { call a(a); spawn a(); let b = a; }\nactor a() { on a(a) { let b = call a(a); spawn a(); send b a(a); become a(); } }",
		"actor c(go) { on go(c) { set go = c; } on c() { } }\nactor d(go) { on go(c) { } on c() { } }",
		"func f(a) { }\nfunc g(a) { }\nactor c(a) { on go(b) { } on ho(b) { } }\nactor d(a) { on go(b) { } }",
		// A tag is not asked.
		"func f() { send self f(); send self nothing(1, 2, 3); }",
		// What is let in braces goes with them.
		"func f(a) { if (a) { let b = 1; } else { let b = 2; set b = 3; } while (a) { let b = 3; } if (a) { let b = 4; if (b) { let c = b; } let c = 5; } let b = 5; let c = 6; set a = b + c; }",
		"func f(a) { let b = a; if (b) { set b = a; while (b) { set a = b; let c = b; } } else { let c = b; set c = a; } }",
		"actor c(n) { on go() { let x = n; } on ho() { let x = n; } on in(x) { } on it(y) { let x = n; } }",
		// Names are told apart to the byte.
		"func f(a, A, _a, a1, aa) { let a_ = 1; let AA = 2; let aA = 3; }\nfunc F() { }\nactor f() { on f() { } on F() { } }\nactor F() { }",
		"func f() { return 1; 2; return 3; let a = 4; }",
	} {
		wantOK(t, text)
	}
}

// P10.1: ErrTwice of functions, roles and bodies, with the line of the later one.
func TestTwice(t *testing.T) {
	want(t, "func f() { }\nfunc f() { }", api.ErrTwice, 2)
	want(t, "func f() { }\nfunc g() { }\n\nfunc\nf(a) { }", api.ErrTwice, 4)
	want(t, "func f() { }\nfunc g() { }\nfunc h() { }\nfunc g() { }\nfunc f() { }", api.ErrTwice, 4)
	want(t, "actor c() { }\nactor c() { }", api.ErrTwice, 2)
	want(t, "actor c() { }\nactor d() { }\n\nactor\nc(a) { }", api.ErrTwice, 4)
	want(t, "actor c() {\non x() { }\non x() { } }", api.ErrTwice, 3)
	want(t, "actor c() {\non x() { }\non y() { }\non\nx(a) { }\n}", api.ErrTwice, 4)
	want(t, "actor d() { on x() { } }\nactor c() {\non x() { }\non x() { } }", api.ErrTwice, 4)
	want(t, "actor d() { on x() { } }\nactor c() { }\nactor c() { on x() { } }", api.ErrTwice, 3)
}

// P10.1: ErrTwice of parameters, with the line of what has them.
func TestTwiceParams(t *testing.T) {
	want(t, "func g() { }\nfunc f(a,\na) { }", api.ErrTwice, 2)
	want(t, "func f(a, b, c,\nb) { }", api.ErrTwice, 1)
	want(t, "func f(a, b,\nc, a) { }", api.ErrTwice, 1)
	want(t, "actor d() { }\nactor c(a,\nb, a) { }", api.ErrTwice, 2)
	want(t, "actor c(a,\na) {\non x(b, b) { } }", api.ErrTwice, 1)
	want(t, "actor c(n) {\non x() { }\non y(a,\nb, a) { } }", api.ErrTwice, 3)
	want(t, "actor c(n, m) {\non x() { }\non y(a, b,\nm) { } }", api.ErrTwice, 3)
	want(t, "actor c(n, m) {\non x() { }\non y(n) { } }", api.ErrTwice, 3)
	want(t, "actor d(n) { }\nactor c(m) { on x(n) { } on y(n) { } }\nactor b(n) {\non x(n) { } }", api.ErrTwice, 4)
	wantOK(t, "func f(n) { }\nactor c(m) { on x(n) { } on y(n) { } }\nactor b(n) { on x(m) { } }")
}

// P10.1: ErrName of an expression, wherever it stands, and of SSet.
func TestName(t *testing.T) {
	for _, expr := range []string{
		"x", "f", "c", "go", "len(x)", "-x", "!x", "x + 1", "1 + x", "(1, 2, x)", "(x, 1)", "a[x]", "x[0]", "call g(x)", "call g(1 || x)", "spawn c(x)", "a + (a, -(1 - len(a[x])))",
		"call h()", "call c(1)", "call a()", "call go()", "spawn d()", "spawn f(1)", "spawn a()", "spawn go()", "call g(call h())", "(1, spawn d())", "spawn c(spawn d(1))",
	} {
		for _, around := range []string{
			"let v =\n%s;", "set a =\n%s;", "if (\n%s) { }", "while (\n%s) { }", "send\n(%s) go();", "send a go(\n%s);", "send a go(1,\n%s, 2);", "(1 +\n%s);",
		} {
			text := fmt.Sprintf(around, expr)
			want(t, "func f(a) {\na;\n"+text+" }\nfunc g(a) { }\nactor c(n) { }", api.ErrName, 3)
			want(t, "func f(a) { }\nfunc g(a) { }\nactor c(n) { on go(a) {\nn;\n"+text+" } }", api.ErrName, 5)
			want(t, "func f(a) { if (a) {\na; } else {\n"+text+" } }\nfunc g(a) { }\nactor c(n) { }", api.ErrName, 3)
		}
		want(t, "func f(a) {\nreturn\n"+expr+"; }\nfunc g(a) { }\nactor c(n) { }", api.ErrName, 2)
		want(t, "func f(a) { }\nfunc g(a) { }\nactor c(n) { on go(a) {\nbecome c(\n"+expr+"); } }", api.ErrName, 4)
	}
	for _, name := range []string{"x", "f", "c", "go"} {
		want(t, "func f(a) {\nset\n"+name+" = 1; }\nactor c(n) { on go() { } }", api.ErrName, 2)
		want(t, "func f(a) { }\nactor c(n) { on go(a) {\nset\n"+name+" = 1; } }", api.ErrName, 3)
	}
	for _, name := range []string{"x", "f", "a", "n", "go"} {
		want(t, "func f(a) { }\nactor c(n) { on go(a) { let m = 1;\nbecome\n"+name+"(1); } }", api.ErrName, 3)
	}
}

// P10.1: a scope begins with what stands ahead of it, and ends with its braces.
func TestScope(t *testing.T) {
	want(t, "func f(a) {\nb;\nlet b = 1; }", api.ErrName, 2)
	want(t, "func f(a) {\nset b = a;\nlet b = 1; }", api.ErrName, 2)
	want(t, "func f(a) {\nlet b = b; }", api.ErrName, 2)
	want(t, "func f(a) { }\nfunc g(b) {\na; }", api.ErrName, 3)
	want(t, "func f() { let a = 1; }\nfunc g() {\na; }", api.ErrName, 3)
	want(t, "actor c(n) { on go(x) { let y = 1; }\non ho() {\nx; } }", api.ErrName, 3)
	want(t, "actor c(n) { on go(x) { let y = 1; }\non ho() {\ny; } }", api.ErrName, 3)
	want(t, "actor c(n) { on go(x) { } }\nactor d(m) { on go(y) {\nn; } }", api.ErrName, 3)
	want(t, "func f(a) { if (a) { let b = 1; } else {\nb; } }", api.ErrName, 2)
	want(t, "func f(a) { if (a) { let b = 1; }\nb; }", api.ErrName, 2)
	want(t, "func f(a) { if (a) { } else { let b = 1; }\nset b = 1; }", api.ErrName, 2)
	want(t, "func f(a) { while (a) { let b = 1; }\nb; }", api.ErrName, 2)
	want(t, "func f(a) {\nwhile (b) { let b = 1; } }", api.ErrName, 2)
	want(t, "func f(a) { if (a) { if (a) { let b = 1; }\nb; } }", api.ErrName, 2)
	want(t, "func f(a) { if (a) { let b = 1; if (b) { let c = 1; } set b = 1; }\nwhile (a) { let c = 1;\nb; } }", api.ErrName, 3)

	want(t, "func f(a) {\nlet a = 1; }", api.ErrTwice, 2)
	want(t, "func f(a) { let b = 1;\nlet b = b; }", api.ErrTwice, 2)
	want(t, "func f(a) { let b = 1; if (a) {\nlet b = 2; } }", api.ErrTwice, 2)
	want(t, "func f(a) { let b = 1; if (a) { } else {\nlet a = 2; } }", api.ErrTwice, 2)
	want(t, "func f(a) { let b = 1; while (a) { if (a) { } else { while (b) {\nlet b = 2; } } } }", api.ErrTwice, 2)
	want(t, "actor c(n) { on go(x) {\nlet n = 1; } }", api.ErrTwice, 2)
	want(t, "actor c(n) { on go(x) {\nlet x = 1; } }", api.ErrTwice, 2)
	want(t, "actor c(n) { on go(x) { while (x) { let y = 1;\nlet y = 1; } } }", api.ErrTwice, 2)
}

// P10.1: ErrArity: one too many and one too few of each number.
func TestArity(t *testing.T) {
	for params := range 4 {
		for values := range 6 {
			args := "(" + strings.Join(strings.Fields("1 2 3 4 5 6")[:values], ", ") + ")"
			e, line := api.OK, 0
			if values != params {
				e, line = api.ErrArity, 3
			}
			heads := fmt.Sprintf("func g(%s) { }\nactor d(%s) { }", names("p", params), names("p", params))
			for _, expr := range []string{"call g" + args, "spawn d" + args, "-(1, call g" + args + ")", "call h(self[spawn d" + args + "])"} {
				want(t, "func f() { 1;\n1;\nreturn\n"+expr+"; }\nfunc h(a) { }\n"+heads, e, line)
				want(t, "actor c() { on go() { 1;\n1;\nsend self go(\n"+expr+"); } }\nfunc h(a) { }\n"+heads, e, line)
			}
			want(t, "actor c() { on go() { 1;\n1;\nbecome d\n"+args+"; } }\n"+heads, e, line)
		}
	}
}

// P10.1: ErrPlace, also within statements.
func TestPlace(t *testing.T) {
	for _, around := range []string{"\n\n%s", "1;\nif (1) {\n%s }", "1;\nif (1) { } else {\n%s }", "\nwhile (1) {\n%s }", "\nwhile (1) { if (1) { 1; } else { if (1) {\n%s } } }"} {
		in := func(stmt string) string { return fmt.Sprintf(around, stmt) }
		for _, stmt := range []string{"stop;", "become c(1);", "become\nc(call f());"} {
			want(t, "func f() { "+in(stmt)+" }\nactor c(n) { }", api.ErrPlace, 3)
			wantOK(t, "func f() { }\nactor c(n) { on go() { "+in(stmt)+" } }")
		}
		for _, stmt := range []string{"return 1;", "return\ncall f();"} {
			want(t, "actor c(n) { on go() { "+in(stmt)+" } }\nfunc f() { }", api.ErrPlace, 3)
			wantOK(t, "func f() { "+in(stmt)+" }\nactor c(n) { on go() { } }")
		}
	}
}

// P10.1: which of two faults is told: that of what stands first, functions ahead of roles, each ahead of what is within it.
func TestOrder(t *testing.T) {
	for _, c := range []struct {
		text string
		err  api.Errno
		line int
	}{
		// What is within a function or a role is ahead of the next one.
		{"func f() {\nx; }\nfunc f() { }", api.ErrName, 2},
		{"func f() {\nx; }\nfunc g(a, a) { }", api.ErrName, 2},
		{"func f(a, a) { }\nfunc f() { }", api.ErrTwice, 1},
		{"func f() { }\nfunc g() {\nx; }\nfunc h() { call f(1); }", api.ErrName, 3},
		{"actor c() { on go() {\nx; } }\nactor c() { }", api.ErrName, 2},
		{"actor c() { on go() {\nx; } on go() { } }", api.ErrName, 2},
		{"actor c() { on go() {\nx; } on ho(a, a) { } }", api.ErrName, 2},
		{"actor c() {\non go() { } on go() { } }\nactor d(a, a) { }", api.ErrTwice, 2},
		{"actor c() { on go() { }\non ho() { return 1; } on it() { x; } }", api.ErrPlace, 2},
		// Functions stand ahead of roles, wherever the text has them.
		{"actor c(a, a) { }\nfunc f() {\nx; }", api.ErrName, 3},
		{"actor c() { }\nactor c() { }\nfunc f() { }\nfunc f() { }", api.ErrTwice, 4},
		// Each is ahead of what is within it.
		{"func f() { }\nfunc f() {\nx; }", api.ErrTwice, 2},
		{"func f(a, a) {\nx; }", api.ErrTwice, 1},
		{"actor c() { }\nactor c() { on go() {\nx; } }", api.ErrTwice, 2},
		{"actor c(a, a) { on go() {\nx; } }", api.ErrTwice, 1},
		{"actor c(a, a) {\non go(b, b) { } }", api.ErrTwice, 1},
		{"actor c(a) { on go() { }\non go() {\nx; } }", api.ErrTwice, 2},
		{"actor c(a) {\non go(a) {\nx; } }", api.ErrTwice, 2},
		// Statement by statement, each ahead of those within it; what is within one is ahead of the next one.
		{"func f() {\nx;\nstop; }", api.ErrName, 2},
		{"func f() {\nstop;\nx; }", api.ErrPlace, 2},
		{"func f() {\nif (x) {\nstop; } }", api.ErrName, 2},
		{"func f() {\nwhile (call f(1)) {\nstop; } }", api.ErrArity, 2},
		{"func f() { if (1) {\nstop; } else {\nx; } }", api.ErrPlace, 2},
		{"func f() { if (1) { } else {\nx; }\nstop; }", api.ErrName, 2},
		{"func f() { while (1) { if (1) {\ncall f(1); } }\nstop; }", api.ErrArity, 2},
		// Expressions from left to right, kids first.
		{"func f() { x + call f(1); }", api.ErrName, 1},
		{"func f() { call f(1) + x; }", api.ErrArity, 1},
		{"func f() { (1, call f(1), x); }", api.ErrArity, 1},
		{"func f() { (1, x, call f(1)); }", api.ErrName, 1},
		{"func f() { call f(1)[x]; }", api.ErrArity, 1},
		{"func f() { x[call f(1)]; }", api.ErrName, 1},
		{"func f() { call f(x); }", api.ErrName, 1},
		{"func f() { spawn c(x); }\nactor c() { }", api.ErrName, 1},
		{"func f() { call g(call f(1)); }", api.ErrArity, 1},
		{"func f() { spawn g(call f(1)); }", api.ErrArity, 1},
		{"func f() { (call g(), call f(1)); }", api.ErrName, 1},
		{"func f() { call f(call g()); }", api.ErrName, 1},
		{"func f() { send x go(call f(1)); }", api.ErrName, 1},
		{"func f() { send call f(1) go(x); }", api.ErrArity, 1},
		{"func f() { send self go(x, call f(1)); }", api.ErrName, 1},
		{"func f() { send self go(call f(1), x); }", api.ErrArity, 1},
		{"actor c() { on go() { become c(spawn c(1), x); } }", api.ErrArity, 1},
		{"actor c() { on go() { become c(x, spawn c(1)); } }", api.ErrName, 1},
		// A statement's expressions are ahead of what it is itself.
		{"func f(a) { let a = x; }", api.ErrName, 1},
		{"func f(a) { let a = call f(); }", api.ErrArity, 1},
		{"func f(a) { set x = call f(); }", api.ErrArity, 1},
		{"actor c() { on go() { return x; } }", api.ErrName, 1},
		{"actor c() { on go() { return spawn c(1); } }", api.ErrArity, 1},
		{"func f() { become c(x); }\nactor c(a) { }", api.ErrName, 1},
		{"func f() { become c(call f(1)); }\nactor c(a) { }", api.ErrArity, 1},
		{"actor c() { on go() { become d(spawn c(1)); } }", api.ErrArity, 1},
		{"actor c() { on go() { become c(x); } }", api.ErrName, 1},
		// Of become: its place, then its role, then how many.
		{"func f() { become d(1); }", api.ErrPlace, 1},
		{"func f() { become c(1, 2); }\nactor c(a) { }", api.ErrPlace, 1},
		{"func f() { become f(1); }", api.ErrPlace, 1},
	} {
		want(t, c.text, c.err, c.line)
	}
}

// P10.1: of two functions or roles of one name the first one is what the name says: the other one is a fault, which may be behind what uses it.
func TestTwiceUsed(t *testing.T) {
	want(t, "func f() {\ncall g(1); }\nfunc g() { }\nfunc g(a) { }", api.ErrArity, 2)
	want(t, "func f() {\ncall g(); }\nfunc g() { }\nfunc g(a) { }", api.ErrTwice, 4)
	want(t, "func f() {\nspawn c(1); }\nactor c() { }\nactor c(a) { }", api.ErrArity, 2)
	want(t, "func f() {\nspawn c(); }\nactor c() { }\nactor c(a) { }", api.ErrTwice, 4)
}
