package code_test

import (
	"fmt"
	"reflect"
	"strconv"
	"strings"
	"testing"

	"drover/api"
	"drover/check"
	"drover/code"
	"drover/tree"
)

// parsed is the program that text says.
func parsed(t *testing.T, text string) api.Program {
	t.Helper()
	p, f := tree.Parse(text)
	if f != (api.Fault{}) {
		t.Fatalf("Parse(%.300q): %v", text, f)
	}
	return p
}

// compiled is the module of a program, which must be right (P11.3).
func compiled(t *testing.T, p api.Program) api.Module {
	t.Helper()
	m, f := code.Compile(p)
	if f != (api.Fault{}) {
		t.Fatalf("Compile: %v of %.600q", f, fmt.Sprint(p))
	}
	if e := code.Check(m); e != api.OK {
		t.Fatalf("Check: %v of the module of %.600q", e, fmt.Sprint(p))
	}
	return m
}

// shown is instructions as one text.
func shown(list []api.Ins) string {
	var all []string
	for _, i := range list {
		all = append(all, code.Show(i))
	}
	return strings.Join(all, ", ")
}

// told is all that a module has, as a text: an empty list and none are told alike.
func told(m api.Module) string {
	var all strings.Builder
	for _, v := range m.Consts {
		fmt.Fprintf(&all, "const %d %d %q %d\n", v.Kind, v.N, v.S, len(v.L))
	}
	for _, tag := range m.Tags {
		fmt.Fprintf(&all, "tag %q\n", tag)
	}
	for _, f := range m.Fns {
		fmt.Fprintf(&all, "fn %q %d %d: %v\n", f.Name, f.Params, f.Vars, f.Code)
	}
	for _, r := range m.Roles {
		fmt.Fprintf(&all, "role %q %d\n", r.Name, r.Params)
		for _, on := range r.On {
			fmt.Fprintf(&all, "on %q %d %d\n", on.Tag, on.Params, on.Fn)
		}
	}
	return all.String()
}

// wantModule wants that module of a text, whole.
func wantModule(t *testing.T, text string, want api.Module) {
	t.Helper()
	p := parsed(t, text)
	if got := compiled(t, p); told(got) != told(want) {
		t.Errorf("Compile(%q) =\n%s; want\n%s", text, told(got), told(want))
	}
	if !reflect.DeepEqual(p, parsed(t, text)) {
		t.Errorf("Compile(%q) changes it", text)
	}
}

// wantCode wants that code, and so many variables, of the function of a text that stands at that place.
func wantCode(t *testing.T, text string, fn, vars int, want string) {
	t.Helper()
	f := compiled(t, parsed(t, text)).Fns[fn]
	if got := shown(f.Code); got != want || f.Vars != vars {
		t.Errorf("Compile(%q) has %d variables and\n%s; want %d and\n%s", text, f.Vars, got, vars, want)
	}
}

// integer, truth and text are constants.
func integer(n int64) api.Value  { return api.Value{Kind: api.VInt, N: n} }
func truth(n int64) api.Value    { return api.Value{Kind: api.VBool, N: n} }
func bytesOf(s string) api.Value { return api.Value{Kind: api.VBytes, S: s} }

// The chapter's examples.
func TestExamples(t *testing.T) {
	wantModule(t, "func f(a) { return a + 1; }", api.Module{
		Consts: []api.Value{integer(1), integer(0)},
		Fns:    []api.Fn{{Name: "f", Params: 1, Vars: 1, Code: []api.Ins{{Op: api.OLoad}, {Op: api.OConst}, {Op: api.OAdd}, {Op: api.OReturn}, {Op: api.OConst, A: 1}, {Op: api.OReturn}}}},
	})
	wantCode(t, "func f(a) { return a + 1; }", 0, 1, "load 0 0, const 0 0, add 0 0, return 0 0, const 1 0, return 0 0")
	wantModule(t, "actor c(n) { on go(x) { send self go(n && x); } }", api.Module{
		Tags:  []string{"go"},
		Fns:   []api.Fn{{Name: "go", Params: 2, Vars: 2, Code: []api.Ins{{Op: api.OSelf}, {Op: api.OLoad}, {Op: api.OAnd, A: 5}, {Op: api.OLoad, A: 1}, {Op: api.OTruth}, {Op: api.OSend, B: 1}, {Op: api.OEnd}}}},
		Roles: []api.Part{{Name: "c", Params: 1, On: []api.On{{Tag: "go", Params: 1, Fn: 0}}}},
	})
	wantCode(t, "actor c(n) { on go(x) { send self go(n && x); } }", 0, 2, "self 0 0, load 0 0, and 5 0, load 1 0, truth 0 0, send 0 1, end 0 0")
}

// P11.1: the code of each expression.
func TestExpressions(t *testing.T) {
	for _, c := range []struct{ expr, want string }{
		{"0", "const 0 0"}, {"7", "const 0 0"}, {"true", "const 0 0"}, {"false", "const 0 0"}, {`"x"`, "const 0 0"}, {"9223372036854775807", "const 0 0"},
		{"a", "load 0 0"}, {"b", "load 1 0"}, {"c", "load 2 0"}, {"self", "self 0 0"},
		{`"&&"`, "const 0 0"}, {`"-"`, "const 0 0"}, {`"||" ++ "a"`, "const 0 0, const 1 0, cat 0 0"},
		{"()", "tuple 0 0"}, {"(a, b)", "load 0 0, load 1 0, tuple 2 0"}, {"(a, (b, c), ())", "load 0 0, load 1 0, load 2 0, tuple 2 0, tuple 0 0, tuple 3 0"}, {"(a)", "load 0 0"},
		{"-a", "load 0 0, neg 0 0"}, {"!a", "load 0 0, not 0 0"}, {"-!-a", "load 0 0, neg 0 0, not 0 0, neg 0 0"}, {"-7", "const 0 0, neg 0 0"},
		{"a == b", "load 0 0, load 1 0, eq 0 0"}, {"a != b", "load 0 0, load 1 0, ne 0 0"}, {"a < b", "load 0 0, load 1 0, lt 0 0"},
		{"a <= b", "load 0 0, load 1 0, le 0 0"}, {"a > b", "load 0 0, load 1 0, gt 0 0"}, {"a >= b", "load 0 0, load 1 0, ge 0 0"},
		{"a + b", "load 0 0, load 1 0, add 0 0"}, {"a - b", "load 0 0, load 1 0, sub 0 0"}, {"a * b", "load 0 0, load 1 0, mul 0 0"},
		{"a / b", "load 0 0, load 1 0, div 0 0"}, {"a % b", "load 0 0, load 1 0, mod 0 0"}, {"a ++ b", "load 0 0, load 1 0, cat 0 0"},
		{"a - b - c", "load 0 0, load 1 0, sub 0 0, load 2 0, sub 0 0"}, {"a - (b - c)", "load 0 0, load 1 0, load 2 0, sub 0 0, sub 0 0"}, {"a - -b", "load 0 0, load 1 0, neg 0 0, sub 0 0"},
		{"a && b", "load 0 0, and 4 0, load 1 0, truth 0 0"}, {"a || b", "load 0 0, or 4 0, load 1 0, truth 0 0"},
		{"a && b && c", "load 0 0, and 4 0, load 1 0, truth 0 0, and 7 0, load 2 0, truth 0 0"},
		{"a || (b || c)", "load 0 0, or 7 0, load 1 0, or 6 0, load 2 0, truth 0 0, truth 0 0"},
		{"a || b && c", "load 0 0, or 7 0, load 1 0, and 6 0, load 2 0, truth 0 0, truth 0 0"},
		{"!(a && !b)", "load 0 0, and 5 0, load 1 0, not 0 0, truth 0 0, not 0 0"},
		{"(a && b) == (b || a)", "load 0 0, and 4 0, load 1 0, truth 0 0, load 1 0, or 8 0, load 0 0, truth 0 0, eq 0 0"},
		{"a[b]", "load 0 0, load 1 0, at 0 0"}, {"a[b][c]", "load 0 0, load 1 0, at 0 0, load 2 0, at 0 0"}, {"a[b[c]]", "load 0 0, load 1 0, load 2 0, at 0 0, at 0 0"},
		{"len(a)", "load 0 0, len 0 0"}, {"len(len(a))", "load 0 0, len 0 0, len 0 0"},
		{"call g()", "call 1 0"}, {"call h(a, b)", "load 0 0, load 1 0, call 2 0"}, {"call h(call g(), call f(c, b, a))", "call 1 0, load 2 0, load 1 0, load 0 0, call 0 0, call 2 0"},
		{"spawn d()", "spawn 0 0"}, {"spawn e(b, a)", "load 1 0, load 0 0, spawn 1 0"}, {"call h(spawn d(), self)", "spawn 0 0, self 0 0, call 2 0"},
	} {
		text := "func f(a, b, c) { " + c.expr + "; } func g() { } func h(a, b) { } actor d() { } actor e(x, y) { }"
		f := compiled(t, parsed(t, text)).Fns[0]
		last := len(f.Code) - 3
		if got := shown(f.Code[:last]); got != c.want || f.Code[last] != (api.Ins{Op: api.OPop}) || f.Code[last+1].Op != api.OConst || f.Code[last+2] != (api.Ins{Op: api.OReturn}) {
			t.Errorf("%s: %s; want %s, then what ends it", c.expr, shown(f.Code), c.want)
		}
	}
}

// P11.1: the code of each statement; how a function ends, and a role's body.
func TestStatements(t *testing.T) {
	for _, c := range []struct{ stmts, want string }{
		{"", ""}, {"let b = a;", "load 0 0, store 1 0"}, {"set a = a;", "load 0 0, store 0 0"}, {"a;", "load 0 0, pop 0 0"}, {"a; self;", "load 0 0, pop 0 0, self 0 0, pop 0 0"},
		{"if (a) { }", "load 0 0, unless 2 0"}, {"if (a) { } else { }", "load 0 0, unless 2 0"}, {"if (a) { self; }", "load 0 0, unless 4 0, self 0 0, pop 0 0"},
		{"if (a) { } else { self; }", "load 0 0, unless 3 0, jump 5 0, self 0 0, pop 0 0"},
		{"if (a) { self; } else { a; }", "load 0 0, unless 5 0, self 0 0, pop 0 0, jump 7 0, load 0 0, pop 0 0"},
		{"if (a) { if (a) { } else { a; } } else { if (a) { a; } }", "load 0 0, unless 8 0, load 0 0, unless 5 0, jump 7 0, load 0 0, pop 0 0, jump 12 0, load 0 0, unless 12 0, load 0 0, pop 0 0"},
		{"while (a) { }", "load 0 0, unless 3 0, jump 0 0"}, {"self; while (a) { self; }", "self 0 0, pop 0 0, load 0 0, unless 7 0, self 0 0, pop 0 0, jump 2 0"},
		{"while (a && a) { while (a) { } }", "load 0 0, and 4 0, load 0 0, truth 0 0, unless 9 0, load 0 0, unless 8 0, jump 5 0, jump 0 0"},
		{"while (a) { if (a) { } else { self; } }", "load 0 0, unless 8 0, load 0 0, unless 5 0, jump 7 0, self 0 0, pop 0 0, jump 0 0"},
		{"send a x();", "load 0 0, send 0 0"}, {"send self x(a, self);", "self 0 0, load 0 0, self 0 0, send 0 2"}, {"send a x(); send a y(); send a x(a);", "load 0 0, send 0 0, load 0 0, send 1 0, load 0 0, load 0 0, send 0 1"},
		{"send (a, a)[a] x();", "load 0 0, load 0 0, tuple 2 0, load 0 0, at 0 0, send 0 0"},
	} {
		n := strings.Count(c.want, ",") + 1
		sep := ", "
		if c.want == "" {
			n, sep = 0, ""
		}
		f := compiled(t, parsed(t, "func f(a) { "+c.stmts+" }")).Fns[0]
		if got, want := shown(f.Code), c.want+sep+"const 0 0, return 0 0"; got != want {
			t.Errorf("func, %s: %s; want %s", c.stmts, got, want)
		}
		b := compiled(t, parsed(t, "actor c() { on go(a) { "+c.stmts+" } }")).Fns[0]
		if got, want := shown(b.Code), c.want+sep+"end 0 0"; got != want || len(b.Code) != n+1 {
			t.Errorf("actor, %s: %s; want %s", c.stmts, got, want)
		}
	}
	wantCode(t, "func f(a) { return a; }", 0, 1, "load 0 0, return 0 0, const 0 0, return 0 0")
	wantCode(t, "func f(a) { return 0; }", 0, 1, "const 0 0, return 0 0, const 0 0, return 0 0")
	wantCode(t, "func f(a) { return a; a; return self; }", 0, 1, "load 0 0, return 0 0, load 0 0, pop 0 0, self 0 0, return 0 0, const 0 0, return 0 0")
	wantCode(t, "func f(a) { if (a) { return a; } else { return self; } }", 0, 1, "load 0 0, unless 5 0, load 0 0, return 0 0, jump 7 0, self 0 0, return 0 0, const 0 0, return 0 0")
	wantCode(t, "actor c(n) { on go() { stop; } }", 0, 1, "stop 0 0, end 0 0")
	wantCode(t, "actor c(n) { on go() { stop; n; } }", 0, 1, "stop 0 0, load 0 0, pop 0 0, end 0 0")
	wantCode(t, "actor c(n, m) { on go() { become c(m, n); } }", 0, 2, "load 1 0, load 0 0, become 0 0, end 0 0")
	wantCode(t, "actor c(n) { on go() { become d(); become c(n); } } actor d() { }", 0, 1, "become 1 0, load 0 0, become 0 0, end 0 0")
}

// P11.1: an Op A where a jump leads: behind all of a body, of the last statement too.
func TestJumpsLead(t *testing.T) {
	wantCode(t, "actor c(n) { on go() { if (n) { while (n) { if (n) { stop; } } } } }", 0, 1, "load 0 0, unless 8 0, load 0 0, unless 8 0, load 0 0, unless 7 0, stop 0 0, jump 2 0, end 0 0")
	wantCode(t, "func f(n) { while (n) { if (n) { } else { return n; } } while (n) { } }", 0, 1,
		"load 0 0, unless 8 0, load 0 0, unless 5 0, jump 7 0, load 0 0, return 0 0, jump 0 0, load 0 0, unless 11 0, jump 8 0, const 0 0, return 0 0")
	// A place in the code is one of its own function.
	text := "func f(n) { if (n) { } } func g(n) { n; if (n || n) { } } actor c() { on go(n) { while (n) { } } on ho(n) { n && n; } }"
	wantCode(t, text, 0, 1, "load 0 0, unless 2 0, const 0 0, return 0 0")
	wantCode(t, text, 1, 1, "load 0 0, pop 0 0, load 0 0, or 6 0, load 0 0, truth 0 0, unless 7 0, const 0 0, return 0 0")
	wantCode(t, text, 2, 1, "load 0 0, unless 3 0, jump 0 0, end 0 0")
	wantCode(t, text, 3, 1, "load 0 0, and 4 0, load 0 0, truth 0 0, pop 0 0, end 0 0")
}

// P11.1: which variable is which, and how many there are.
func TestVariables(t *testing.T) {
	for _, c := range []struct {
		text string
		fn   int
		vars int
		want string
	}{
		{"func f() { }", 0, 0, ""}, {"func f(a, b) { }", 0, 2, ""}, {"func f(a, b) { a; b; }", 0, 2, "l0 l1"}, {"func f() { let a = self; let b = a; a; b; }", 0, 2, "s0 l0 s1 l0 l1"},
		{"func f(a) { let b = a; let c = b; set a = c; set c = b; }", 0, 3, "l0 s1 l1 s2 l2 s0 l1 s2"},
		// What is let in braces is free behind them.
		{"func f(a) { if (a) { let b = a; } let c = a; }", 0, 2, "l0 l0 s1 l0 s1"},
		{"func f(a) { if (a) { let b = a; let c = b; } else { let d = a; } let e = a; }", 0, 3, "l0 l0 s1 l1 s2 l0 s1 l0 s1"},
		{"func f(a) { if (a) { let b = a; } else { let c = a; let b = c; let d = b; } }", 0, 4, "l0 l0 s1 l0 s1 l1 s2 l2 s3"},
		{"func f(a) { while (a) { let b = a; let c = b; } while (a) { let c = a; let b = c; } }", 0, 3, "l0 l0 s1 l1 s2 l0 l0 s1 l1 s2"},
		{"func f(a) { let b = a; if (b) { let c = b; if (c) { let d = c; } let e = c; e; } let f = b; f; }", 0, 4, "l0 s1 l1 l1 s2 l2 l2 s3 l2 s3 l3 l1 s2 l2"},
		{"func f(a) { if (a) { let b = a; if (b) { let c = b; let d = c; } } if (a) { let e = a; } let g = a; let h = a; }", 0, 4, "l0 l0 s1 l1 l1 s2 l2 s3 l0 l0 s1 l0 s1 l0 s2"},
		{"func f(a) { let b = a; while (a) { set b = a; set a = b; let c = b; set c = c; } set b = b; }", 0, 3, "l0 s1 l0 l0 s1 l1 s0 l1 s2 l2 s2 l1 s1"},
		// Of a role's body the state comes first.
		{"actor c(n, m) { on x() { n; m; } on go(a, b) { a; b; n; m; let d = a; d; } }", 0, 2, "l0 l1"},
		{"actor c(n, m) { on x() { n; m; } on go(a, b) { a; b; n; m; let d = a; d; } }", 1, 5, "l2 l3 l0 l1 l2 s4 l4"},
		{"actor c() { on go(a) { set a = a; let b = a; } }", 0, 2, "l0 s0 l0 s1"},
		{"actor c(n) { on go() { set n = n; let b = n; } } actor d(k, l) { on go(n) { set k = n; set n = l; } }", 0, 2, "l0 s0 l0 s1"},
		{"actor c(n) { on go() { set n = n; let b = n; } } actor d(k, l) { on go(n) { set k = n; set n = l; } }", 1, 3, "l2 s0 l1 s2"},
		// Another function's scope is another one.
		{"func f(a) { let b = a; let c = b; } func g(c, b, a) { a; b; c; }", 0, 3, "l0 s1 l1 s2"},
		{"func f(a) { let b = a; let c = b; } func g(c, b, a) { a; b; c; }", 1, 3, "l2 l1 l0"},
	} {
		f := compiled(t, parsed(t, c.text)).Fns[c.fn]
		var all []string
		for _, i := range f.Code {
			switch i.Op {
			case api.OLoad:
				all = append(all, "l"+strconv.Itoa(i.A))
			case api.OStore:
				all = append(all, "s"+strconv.Itoa(i.A))
			}
		}
		if got := strings.Join(all, " "); got != c.want || f.Vars != c.vars {
			t.Errorf("%s, %d: %d variables, %s; want %d, %s", c.text, c.fn, f.Vars, got, c.vars, c.want)
		}
	}
}

// P11.1: each constant once, in the order in which they come first.
func TestConsts(t *testing.T) {
	for _, c := range []struct {
		text string
		want []api.Value
	}{
		{"", nil}, {"func f() { }", []api.Value{integer(0)}}, {"actor c() { on go() { } }", nil}, {"actor c() { on go() { 5; } }", []api.Value{integer(5)}},
		{"func f() { 1; 0; 1; 2; 0; 2; }", []api.Value{integer(1), integer(0), integer(2)}},
		{"func f() { 2; } func g() { 3; 2; } func h() { 1; 3; 0; }", []api.Value{integer(2), integer(0), integer(3), integer(1)}},
		// Of two kinds none is the same.
		{`func f() { 0; false; ""; 1; true; "0"; "1"; "true"; "false"; }`, []api.Value{integer(0), truth(0), bytesOf(""), integer(1), truth(1), bytesOf("0"), bytesOf("1"), bytesOf("true"), bytesOf("false")}},
		{`func f() { "0"; true; 1; ""; false; 0; 0; false; ""; 1; true; "0"; }`, []api.Value{bytesOf("0"), truth(1), integer(1), bytesOf(""), truth(0), integer(0)}},
		{`func f() { "a"; "ab"; "A"; "a"; "\x00"; "\xff"; "a\x00"; "\xff"; "\x61"; }`, []api.Value{bytesOf("a"), bytesOf("ab"), bytesOf("A"), bytesOf("\x00"), bytesOf("\xff"), bytesOf("a\x00"), integer(0)}},
		{"func f() { 9223372036854775807; 007; 7; -7; }", []api.Value{integer(1<<63 - 1), integer(7), integer(0)}},
		// Functions come ahead of bodies, wherever the text has them; bodies role by role.
		{"actor c(n) { on go() { 3; } on ho() { 4; } } func f() { 1; } actor d(n) { on go() { 5; 2; 4; } } func g() { 2; }", []api.Value{integer(1), integer(0), integer(2), integer(3), integer(4), integer(5)}},
		// Within a function in the order of its code.
		{"func f() { while (1) { 2; } if (3) { 4; } else { 5; } let a = (6, 7)[8]; send 9 x(10, 11); return 12; }",
			[]api.Value{integer(1), integer(2), integer(3), integer(4), integer(5), integer(6), integer(7), integer(8), integer(9), integer(10), integer(11), integer(12), integer(0)}},
		{"func f() { (1 && 2) + 3 || 4; }", []api.Value{integer(1), integer(2), integer(3), integer(4), integer(0)}},
	} {
		m := compiled(t, parsed(t, c.text))
		if got, want := told(api.Module{Consts: m.Consts}), told(api.Module{Consts: c.want}); got != want {
			t.Errorf("%s:\n%s; want\n%s", c.text, got, want)
		}
	}
	wantCode(t, "func f() { 1; 0; 1; 2; } func g() { 2; 0; 3; }", 0, 0, "const 0 0, pop 0 0, const 1 0, pop 0 0, const 0 0, pop 0 0, const 2 0, pop 0 0, const 1 0, return 0 0")
	wantCode(t, "func f() { 1; 0; 1; 2; } func g() { 2; 0; 3; }", 1, 0, "const 2 0, pop 0 0, const 1 0, pop 0 0, const 3 0, pop 0 0, const 1 0, return 0 0")
}

// P11.1: each tag that is sent once, in the order in which they come first.
func TestTags(t *testing.T) {
	for _, c := range []struct{ text, want string }{
		{"", ""}, {"actor c() { on go() { } on ho() { } }", ""}, {"func f(a) { send a y(); send a x(); send a y(1); send a z(); }", "y x z"},
		{"actor c(n) { on go() { send self d(); send self b(); } } func f(a) { send a b(); } func g(a) { send a c(); send a b(); }", "b c d"},
		{"actor c(n) { on go() { send n ho(); } on ho() { send n it(); send n go(); } } actor d(n) { on a() { send n b(); send n ho(); } }", "ho it go b"},
		{"func f(a) { if (a) { send a d(); } else { send a c(); } while (a) { send a b(); send a d(); } send a a(); }", "d c b a"},
		{"func f(a) { send a A(); send a a(); send a f(); send a _(); send a a1(); send a A(); }", "A a f _ a1"},
	} {
		if got := strings.Join(compiled(t, parsed(t, c.text)).Tags, " "); got != c.want {
			t.Errorf("%s: %s; want %s", c.text, got, c.want)
		}
	}
	wantCode(t, "func f(a) { send a x(); } actor c(n) { on y() { send n y(n); send n x(n, n); } }", 1, 1, "load 0 0, load 0 0, send 1 1, load 0 0, load 0 0, load 0 0, send 0 2, end 0 0")
}

// P11.1: functions, then bodies, role by role; roles in order; where what is used stands.
func TestOrder(t *testing.T) {
	end, zero := []api.Ins{{Op: api.OEnd}}, []api.Ins{{Op: api.OConst}, {Op: api.OReturn}}
	wantModule(t, "", api.Module{})
	wantModule(t, "actor c() { }", api.Module{Roles: []api.Part{{Name: "c"}}})
	wantModule(t, "actor b(n) { on y(a) { } on x() { } } func z() { } actor a(k, l) { } func y(q) { } actor c(k, l) { on x(a, b, c) { } }", api.Module{
		Consts: []api.Value{integer(0)},
		Fns: []api.Fn{
			{Name: "z", Code: zero}, {Name: "y", Params: 1, Vars: 1, Code: zero},
			{Name: "y", Params: 2, Vars: 2, Code: end}, {Name: "x", Params: 1, Vars: 1, Code: end}, {Name: "x", Params: 5, Vars: 5, Code: end},
		},
		Roles: []api.Part{
			{Name: "b", Params: 1, On: []api.On{{Tag: "y", Params: 1, Fn: 2}, {Tag: "x", Fn: 3}}}, {Name: "a", Params: 2}, {Name: "c", Params: 2, On: []api.On{{Tag: "x", Params: 3, Fn: 4}}},
		},
	})
	text := "actor b() { on y() { call z(call y(spawn c())); spawn a(); become c(); } } func z(n) { call z(call y(n)); } actor a() { } func y(q) { call z(q); spawn b(); } actor c() { on x() { become a(); } }"
	wantCode(t, text, 0, 1, "load 0 0, call 1 0, call 0 0, pop 0 0, const 0 0, return 0 0")
	wantCode(t, text, 1, 1, "load 0 0, call 0 0, pop 0 0, spawn 0 0, pop 0 0, const 0 0, return 0 0")
	wantCode(t, text, 2, 0, "spawn 2 0, call 1 0, call 0 0, pop 0 0, spawn 1 0, pop 0 0, become 2 0, end 0 0")
	wantCode(t, text, 3, 0, "become 1 0, end 0 0")
	// Functions, roles, tags and variables have their names apart.
	wantModule(t, "func b() { } func a(a) { call a(a); spawn a(); } actor b() { } actor a() { on b(a) { send a a(call a(a)); become a(); } }", api.Module{
		Consts: []api.Value{integer(0)}, Tags: []string{"a"},
		Fns: []api.Fn{
			{Name: "b", Code: zero},
			{Name: "a", Params: 1, Vars: 1, Code: []api.Ins{{Op: api.OLoad}, {Op: api.OCall, A: 1}, {Op: api.OPop}, {Op: api.OSpawn, A: 1}, {Op: api.OPop}, {Op: api.OConst}, {Op: api.OReturn}}},
			{Name: "b", Params: 1, Vars: 1, Code: []api.Ins{{Op: api.OLoad}, {Op: api.OLoad}, {Op: api.OCall, A: 1}, {Op: api.OSend, B: 1}, {Op: api.OBecome, A: 1}, {Op: api.OEnd}}},
		},
		Roles: []api.Part{{Name: "b"}, {Name: "a", On: []api.On{{Tag: "b", Params: 1, Fn: 2}}}},
	})
}

// P11.1: check's fault, beside which there is no module.
func TestFaults(t *testing.T) {
	endless := []api.Stmt{{Kind: api.SWhile, Exprs: []api.Expr{{Kind: api.ESelf}}}}
	endless[0].Body = endless
	kids := []api.Expr{{Kind: api.ELen}}
	kids[0].Kids = kids
	for i, c := range []struct {
		p    api.Program
		err  api.Errno
		line int
	}{
		{parsed(t, "func f(a) { }\nfunc f(a) { }"), api.ErrTwice, 2}, {parsed(t, "func f(a) {\nlet a = 1; }"), api.ErrTwice, 2}, {parsed(t, "func f() { }\nactor c(n) {\non x(n) { } }"), api.ErrTwice, 3},
		{parsed(t, "func f() { }\nfunc g() { return\nx; }"), api.ErrName, 2}, {parsed(t, "func f() {\n\ncall g(); }"), api.ErrName, 3}, {parsed(t, "actor c() { on x() {\nbecome d(); } }"), api.ErrName, 2},
		{parsed(t, "func f() { call f(1); }"), api.ErrArity, 1}, {parsed(t, "func f() { }\nactor c(n) { on x() { let k =\nspawn c(); } }"), api.ErrArity, 2},
		{parsed(t, "func f() {\nstop; }"), api.ErrPlace, 2}, {parsed(t, "actor c() { on x() {\nreturn 1; } }"), api.ErrPlace, 2},
		{api.Program{Fns: []api.Body{{Name: "1", Line: 7}}}, api.ErrTree, 0}, {api.Program{Fns: []api.Body{{Name: "f", Line: 7, Stmts: []api.Stmt{{Line: 8}}}}}, api.ErrTree, 0},
		{api.Program{Fns: []api.Body{{Name: "f", Stmts: []api.Stmt{{Kind: api.SExpr, Exprs: []api.Expr{{Kind: api.EOp, S: "&&"}}}}}}}, api.ErrTree, 0},
		{api.Program{Fns: []api.Body{{Name: "f", Stmts: endless}}}, api.ErrTree, 0}, {api.Program{Fns: []api.Body{{Name: "f", Stmts: []api.Stmt{{Kind: api.SExpr, Exprs: kids}}}}}, api.ErrTree, 0},
		{api.Program{Fns: make([]api.Body, 61)}, api.ErrTree, 0},
		{api.Program{Roles: []api.Role{{Name: "c", Params: manyNames("s", 20), On: []api.Body{{Name: "x", Line: 4, Params: manyNames("p", 11)}}}}}, api.ErrNested, 4},
	} {
		m, f := code.Compile(c.p)
		if want := (api.Fault{Err: c.err, Line: c.line}); f != want || f != check.Check(c.p) || !reflect.DeepEqual(m, api.Module{}) {
			t.Errorf("%d: Compile = %v, %v; want %v and no module", i, told(m), f, want)
		}
	}
}

// R6: an empty list and none are the same.
func TestEmptyLists(t *testing.T) {
	made := func(none []api.Stmt, exprs []api.Expr, names []string) api.Program {
		one := []api.Expr{{Kind: api.ETuple, Kids: exprs}}
		stmts := []api.Stmt{{Kind: api.SIf, Exprs: one, Body: none, Else: none}, {Kind: api.SIf, Exprs: one, Body: []api.Stmt{{Kind: api.SExpr, Exprs: one, Body: none, Else: none}}, Else: none}}
		return api.Program{
			Fns:   []api.Body{{Name: "f", Params: names, Stmts: none}, {Name: "g", Params: names, Stmts: stmts}},
			Roles: []api.Role{{Name: "c", Params: names, On: []api.Body{{Name: "x", Params: names, Stmts: stmts}}}},
		}
	}
	a, b := compiled(t, made(nil, nil, nil)), compiled(t, made([]api.Stmt{}, []api.Expr{}, []string{}))
	if want := "tuple 0 0, unless 2 0, tuple 0 0, unless 6 0, tuple 0 0, pop 0 0, end 0 0"; told(a) != told(b) || shown(a.Fns[2].Code) != want {
		t.Errorf("%s\n%s", told(a), told(b))
	}
	if none, empty := compiled(t, api.Program{}), compiled(t, api.Program{Fns: []api.Body{}, Roles: []api.Role{}}); told(none) != "" || told(empty) != "" {
		t.Error(told(none), told(empty))
	}
	wantCheck(t, "empty lists", api.Module{Consts: []api.Value{}, Tags: []string{}, Fns: []api.Fn{}, Roles: []api.Part{{On: []api.On{}}}}, true)
	wantCheck(t, "an empty code", api.Module{Fns: []api.Fn{{Code: []api.Ins{}}}}, false)
}

// manyNames is so many names that begin with that letter.
func manyNames(letter string, many int) (all []string) {
	for i := range many {
		all = append(all, letter+strconv.Itoa(i))
	}
	return all
}

// P11.1: lines are nothing to a module.
func TestLines(t *testing.T) {
	text := "func f(a) { if (a) { let b = 1; } return a; } actor c(n) { on x(y) { set n = y; } }"
	if a, b := compiled(t, parsed(t, text)), compiled(t, parsed(t, strings.ReplaceAll(text, " ", "\n"))); told(a) != told(b) {
		t.Errorf("%s\n%s", told(a), told(b))
	}
}

// R3: what is handed in is not changed, nor the spare room of its lists; a module keeps nothing of it, and no two of its lists share memory.
func TestMemory(t *testing.T) {
	made := func() api.Program {
		one := api.Expr{Kind: api.EInt, N: 1}
		params := append(make([]string, 0, 40), "a", "b", "spare")[:2]
		kids := append(make([]api.Expr, 0, 9), one, api.Expr{Kind: api.EText, S: "t"}, api.Expr{Kind: 99})[:2]
		exprs := append(make([]api.Expr, 0, 9), api.Expr{Kind: api.ECall, S: "f", Kids: kids}, api.Expr{Kind: 99})[:1]
		body := append(make([]api.Stmt, 0, 9), api.Stmt{Kind: api.SLet, S: "c", Exprs: exprs}, api.Stmt{Kind: 99})[:1]
		stmts := append(make([]api.Stmt, 0, 9), api.Stmt{Kind: api.SIf, Exprs: exprs, Body: body, Else: body}, api.Stmt{Kind: api.SSend, S: "c", Exprs: exprs}, api.Stmt{Kind: 99})[:2]
		on := append(make([]api.Body, 0, 9), api.Body{Name: "x", Params: []string{"n"}, Stmts: stmts}, api.Body{Name: "y", Stmts: stmts}, api.Body{Name: "spare"})[:2]
		return api.Program{
			Fns:   append(make([]api.Body, 0, 9), api.Body{Name: "f", Params: params, Stmts: stmts}, api.Body{Name: "g", Stmts: stmts}, api.Body{Name: "spare"})[:2],
			Roles: append(make([]api.Role, 0, 9), api.Role{Name: "c", Params: params, On: on}, api.Role{Name: "d", Params: params, On: on}, api.Role{Name: "spare"})[:2],
		}
	}
	// whole is a program with all that is in its lists' spare room.
	whole := func(p api.Program) []any {
		f, r := p.Fns[:cap(p.Fns)], p.Roles[:cap(p.Roles)]
		s := f[0].Stmts[:cap(f[0].Stmts)]
		x := s[0].Exprs[:cap(s[0].Exprs)]
		return []any{f, r, s, x, f[0].Params[:cap(f[0].Params)], r[0].On[:cap(r[0].On)], s[0].Body[:cap(s[0].Body)], x[0].Kids[:cap(x[0].Kids)]}
	}
	p := made()
	m := compiled(t, p)
	if !reflect.DeepEqual(whole(p), whole(made())) {
		t.Error("Compile changes what is handed in")
	}
	want := told(m)
	p.Fns[0], p.Roles[0], p.Fns[1].Stmts[0], p.Roles[1].On[0] = api.Body{}, api.Role{}, api.Stmt{}, api.Body{}
	p.Fns[1].Stmts[1].Exprs[0].Kids[0] = api.Expr{}
	p.Roles[1].Params[0] = "other"
	if told(m) != want {
		t.Error("a module shares memory with what was handed in")
	}
	fillSpare(&m)
	if told(m) != want {
		t.Error("two lists of a module share memory")
	}
}

// fillSpare writes into the spare room of all lists of a module.
func fillSpare(m *api.Module) {
	for i := range m.Fns {
		for k := len(m.Fns[i].Code); k < cap(m.Fns[i].Code); k++ {
			m.Fns[i].Code[:k+1][k] = api.Ins{Op: 99, A: 99, B: 99}
		}
	}
	for i := range m.Roles {
		for k := len(m.Roles[i].On); k < cap(m.Roles[i].On); k++ {
			m.Roles[i].On[:k+1][k] = api.On{Tag: "spare", Params: 99, Fn: 99}
		}
	}
	for k := len(m.Fns); k < cap(m.Fns); k++ {
		m.Fns[:k+1][k] = api.Fn{Name: "spare"}
	}
	for k := len(m.Roles); k < cap(m.Roles); k++ {
		m.Roles[:k+1][k] = api.Part{Name: "spare"}
	}
	for k := len(m.Consts); k < cap(m.Consts); k++ {
		m.Consts[:k+1][k] = api.Value{Kind: 99}
	}
	for k := len(m.Tags); k < cap(m.Tags); k++ {
		m.Tags[:k+1][k] = "spare"
	}
}
