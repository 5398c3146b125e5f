package base_test

import (
	"fmt"
	"math"
	"reflect"
	"slices"
	"strings"
	"testing"

	"drover/api"
	"drover/base"
	"drover/code"
	"drover/tree"
)

// The limits and traps, as the chapter and api have them.
const (
	mostCalls = 50
	mostStack = 200
	mostBytes = 4096

	trapType, trapRange, trapZero, trapOver, trapLong, trapDeep, trapTag, trapFuel, trapStack = 1, 2, 3, 4, 5, 6, 7, 8, 9
)

// number, truth, text, actor and tuple are values.
func number(n int64) api.Value       { return api.Value{Kind: api.VInt, N: n} }
func truth(n int64) api.Value        { return api.Value{Kind: api.VBool, N: n} }
func text(s string) api.Value        { return api.Value{Kind: api.VBytes, S: s} }
func actor(n int64) api.Value        { return api.Value{Kind: api.VActor, N: n} }
func tuple(l ...api.Value) api.Value { return api.Value{Kind: api.VTuple, L: l} }
func list(l ...api.Value) []api.Value {
	return l
}

// many is so many of v.
func many(n int, v api.Value) []api.Value {
	all := make([]api.Value, n)
	for i := range all {
		all[i] = v
	}
	return all
}

// deep is v within so many tuples.
func deep(n int, v api.Value) api.Value {
	for range n {
		v = tuple(v)
	}
	return v
}

// wrongs are values that are not right.
func wrongs() []api.Value {
	return list(
		api.Value{}, api.Value{Kind: 6}, truth(2), actor(-1), api.Value{Kind: api.VInt, S: "x"}, api.Value{Kind: api.VTuple, N: 1}, text(strings.Repeat("x", mostBytes+1)),
		tuple(many(256, number(0))...), deep(16, number(0)), tuple(number(1), tuple(truth(-1))),
	)
}

// compiled is the module of a text.
func compiled(t *testing.T, text string) api.Module {
	t.Helper()
	p, f := tree.Parse(text)
	m, g := code.Compile(p)
	if f != (api.Fault{}) || g != (api.Fault{}) || code.Check(m) != api.OK {
		t.Fatalf("%v %v of %s", f, g, text)
	}
	return m
}

// begun is a turn that must begin.
func begun(t *testing.T, m api.Module, role int, state []api.Value, tag string, args ...api.Value) api.Turn {
	t.Helper()
	x, e := base.Begin(m, role, state, tag, args, 7, 50)
	if e != api.OK {
		t.Fatalf("Begin(%d, %v, %q, %v): %d", role, state, tag, args, e)
	}
	return x
}

// brief is a text as far as it is of use in a test's answer.
func brief(s string) string {
	return s[:min(len(s), 1500)]
}

// told is all that a turn has, as a text: an empty list and none are told alike.
func told(t api.Turn) string {
	var all strings.Builder
	values := func(what string, l []api.Value) {
		all.WriteString(" " + what)
		for _, v := range l {
			fmt.Fprintf(&all, " %s", toldValue(v))
		}
	}
	fmt.Fprintf(&all, "self %d next %d used %d over %d trap %d role %d", t.Self, t.Next, t.Used, t.Over, t.Trap, t.Role)
	values("state", t.State)
	for _, f := range t.Frames {
		fmt.Fprintf(&all, "\nframe %d at %d", f.Fn, f.At)
		values("vars", f.Vars)
		values("stack", f.Stack)
	}
	for _, e := range t.Effects {
		fmt.Fprintf(&all, "\neffect to %d role %d tag %q", e.To, e.Role, e.Tag)
		values("args", e.Args)
	}
	return all.String()
}

// toldValue is all that a value has, even if it is not right.
func toldValue(v api.Value) string {
	parts := ""
	for _, part := range v.L {
		parts += toldValue(part)
	}
	return fmt.Sprintf("<%d %d %q%s>", v.Kind, v.N, v.S, parts)
}

// alike tells whether two turns have the same, field by field: an empty list and none are the same.
func alike(a, b api.Turn) bool {
	return a.Self == b.Self && a.Next == b.Next && a.Used == b.Used && a.Over == b.Over && a.Trap == b.Trap && a.Role == b.Role && slices.EqualFunc(a.State, b.State, alikeValue) &&
		slices.EqualFunc(a.Frames, b.Frames, func(f, g api.Frame) bool {
			return f.Fn == g.Fn && f.At == g.At && slices.EqualFunc(f.Vars, g.Vars, alikeValue) && slices.EqualFunc(f.Stack, g.Stack, alikeValue)
		}) &&
		slices.EqualFunc(a.Effects, b.Effects, func(e, f api.Effect) bool {
			return e.To == f.To && e.Role == f.Role && e.Tag == f.Tag && slices.EqualFunc(e.Args, f.Args, alikeValue)
		})
}

// alikeValue tells whether two values have the same, field by field.
func alikeValue(a, b api.Value) bool {
	return a.Kind == b.Kind && a.N == b.N && a.S == b.S && slices.EqualFunc(a.L, b.L, alikeValue)
}

// kept is a turn in memory of its own, to be held against it later.
func kept(t api.Turn) api.Turn {
	var values func(all []api.Value) []api.Value
	values = func(all []api.Value) (own []api.Value) {
		for _, v := range all {
			v.L = values(v.L)
			own = append(own, v)
		}
		return own
	}
	own := t
	own.State, own.Frames, own.Effects = values(t.State), nil, nil
	for _, f := range t.Frames {
		own.Frames = append(own.Frames, api.Frame{Fn: f.Fn, At: f.At, Vars: values(f.Vars), Stack: values(f.Stack)})
	}
	for _, e := range t.Effects {
		own.Effects = append(own.Effects, api.Effect{To: e.To, Role: e.Role, Tag: e.Tag, Args: values(e.Args)})
	}
	return own
}

// wantTurn wants that turn, whole.
func wantTurn(t *testing.T, what string, got, want api.Turn) {
	t.Helper()
	if !alike(got, want) {
		t.Errorf("%s:\n%s\nwant\n%s", brief(what), brief(told(got)), brief(told(want)))
	}
}

// counter is the chapter's program.
const counter = "actor c(n) { on add(x) { set n = n + x; } }"

// The chapter's examples.
func TestExamples(t *testing.T) {
	m := compiled(t, counter)
	for _, c := range []struct {
		tag   string
		args  []api.Value
		steps int
		want  api.Turn
	}{
		{"add", list(number(4)), 100, api.Turn{Over: api.Ended, Used: 5, State: list(number(7))}},
		{"add", list(number(4)), 5, api.Turn{Over: api.Ended, Used: 5, State: list(number(7))}},
		{"add", list(truth(1)), 100, api.Turn{Over: api.Trapped, Trap: trapType, Used: 3, State: list(number(3))}},
		{"go", nil, 100, api.Turn{Over: api.Trapped, Trap: trapTag, State: list(number(3))}},
		{"add", list(number(4)), 2, api.Turn{Over: api.Trapped, Trap: trapFuel, Used: 2, State: list(number(3))}},
	} {
		c.want.Self, c.want.Next = 7, 50
		wantTurn(t, c.tag, base.Run(m, begun(t, m, 0, list(number(3)), c.tag, c.args...), c.steps), c.want)
	}
}

// P12.1: the turn that begins, whole.
func TestBegin(t *testing.T) {
	m := compiled(t, `func f(a) { return a; } actor c() { on a() { } on b(x) { let y = x; let z = y; } } actor d(n, k) { on a(x, y) { stop; } on b() { if (n) { let z = k; } } } actor e(n) { }`)
	zero := number(0)
	for _, c := range []struct {
		role        int
		state, args []api.Value
		tag         string
		fn          int
		vars        []api.Value
	}{
		{0, nil, nil, "a", 1, nil},
		{0, nil, list(text("q")), "b", 2, list(text("q"), zero, zero)},
		{1, list(truth(1), actor(5)), list(tuple(), number(-1)), "a", 3, list(truth(1), actor(5), tuple(), number(-1))},
		{1, list(tuple(number(1), tuple(text("x"))), zero), nil, "b", 4, list(tuple(number(1), tuple(text("x"))), zero, zero)},
	} {
		for _, who := range [][2]int64{{0, 0}, {7, 50}, {math.MaxInt64, math.MinInt64}, {-1, -2}} {
			got, e := base.Begin(m, c.role, c.state, c.tag, c.args, who[0], who[1])
			want := api.Turn{Frames: []api.Frame{{Fn: c.fn, Vars: c.vars}}, Self: who[0], Next: who[1], Role: c.role, State: c.state}
			wantTurn(t, fmt.Sprint(c), got, want)
			if e != api.OK || !base.Right(m, got) {
				t.Error(c, e)
			}
		}
	}
	// Nothing is done at such a message: no such tag, or another number of values.
	for _, c := range []struct {
		role        int
		state, args []api.Value
		tag         string
	}{
		{0, nil, nil, ""}, {0, nil, nil, "c"}, {0, nil, nil, "aa"}, {0, nil, nil, "A"}, {0, nil, nil, "f"}, {0, nil, list(zero), "a"}, {0, nil, nil, "b"}, {0, nil, list(zero, zero), "b"}, {0, nil, many(300, zero), "a"},
		{1, list(zero, truth(0)), nil, "a"}, {1, list(zero, zero), list(zero), "a"}, {1, list(zero, zero), many(3, zero), "a"}, {1, list(zero, zero), many(4, zero), "a"}, {1, list(zero, zero), list(zero), "b"},
		{2, list(tuple(zero)), nil, "a"}, {2, list(text("x")), nil, ""},
	} {
		got, e := base.Begin(m, c.role, c.state, c.tag, c.args, 7, 50)
		want := api.Turn{Self: 7, Next: 50, Over: api.Trapped, Trap: trapTag, Role: c.role, State: c.state}
		wantTurn(t, fmt.Sprint(c), got, want)
		if e != api.OK || !base.Right(m, got) {
			t.Error(c, e)
		}
		wantTurn(t, fmt.Sprint("Run of ", c), base.Run(m, got, 10), want)
		wantTurn(t, fmt.Sprint("Step of ", c), base.Step(m, got), want)
	}
}

// P12.1: what may not begin, and what of several errors counts.
func TestBeginErrors(t *testing.T) {
	m := compiled(t, "actor c() { on a() { } on b(x) { } } actor d(n, k) { on a(x, y) { } }")
	wrong := compiled(t, "actor c() { on a() { } on b(x) { } } actor d(n, k) { on a(x, y) { } }")
	wrong.Fns[2].Code[0].A = 1
	zero := number(0)
	type given struct {
		role        int
		state, args []api.Value
		tag         string
	}
	all := []given{
		{-1, nil, nil, "a"}, {2, nil, nil, "a"}, {math.MinInt, nil, nil, "a"}, {math.MaxInt, nil, nil, "a"}, {3, list(zero, zero), nil, "x"},
		{0, list(zero), nil, "a"}, {1, nil, many(2, zero), "a"}, {1, list(zero), many(2, zero), "a"}, {1, many(3, zero), many(2, zero), "a"}, {1, many(4, zero), nil, "a"}, {1, list(zero), many(2, zero), "none"},
	}
	for _, v := range wrongs() {
		all = append(all, given{1, list(v, zero), many(2, zero), "a"}, given{1, list(zero, v), many(2, zero), "a"}, given{1, many(2, zero), list(v, zero), "a"}, given{1, many(2, zero), list(zero, v), "a"},
			// Also of a message that nothing would be done at.
			given{0, nil, list(v), "none"}, given{0, nil, list(v), "a"}, given{0, nil, list(zero, v), "b"}, given{1, list(zero, v), nil, "none"})
	}
	for _, g := range all {
		if got, e := base.Begin(m, g.role, g.state, g.tag, g.args, 7, 50); e != api.ErrArg || !reflect.DeepEqual(got, api.Turn{}) {
			t.Errorf("Begin(%s) = %d, %s; want ErrArg", brief(fmt.Sprint(g)), e, brief(told(got)))
		}
	}
	for _, g := range append(all, given{0, nil, nil, "a"}, given{0, nil, nil, "none"}) {
		if got, e := base.Begin(wrong, g.role, g.state, g.tag, g.args, 7, 50); e != api.ErrCode || !reflect.DeepEqual(got, api.Turn{}) {
			t.Errorf("Begin(wrong, %s) = %d, %s; want ErrCode", brief(fmt.Sprint(g)), e, brief(told(got)))
		}
	}
	if got, e := base.Begin(api.Module{}, 0, nil, "", nil, 0, 0); e != api.ErrArg || !reflect.DeepEqual(got, api.Turn{}) {
		t.Error(e, told(got))
	}
}

// P12.2: programs at work, from the first step to the last one.
func TestPrograms(t *testing.T) {
	fibonacci := "func fib(n) { if (n < 2) { return n; } return (call fib(n - 1)) + (call fib(n - 2)); } actor c(n) { on go(k) { set n = call fib(k); } }"
	gcd := "actor c(n) { on go(a, b) { while (b != 0) { let r = a % b; set a = b; set b = r; } set n = a; } }"
	backwards := `actor c(n) { on go(t) { let i = len(t); set n = (); while (i > 0) { set i = i - 1; set n = n ++ (t[i], i); } } }`
	sieve := "actor c(n) { on go(k) { set n = (); let i = 2; while (i < k) { let j = 0; let is = true; while (is && j < len(n)) { set is = i % n[j] != 0; set j = j + 1; } if (is) { set n = n ++ (i, i); } set i = i + 1; } } }"
	many := `func f() { 5; } actor c(n) { on go(a) { send self x(1, a); let k = spawn d(a, self); if (k == self || a != ()) { send k y(); } else { send k z(k); } become d((k, spawn c(call f())), !true); } } actor d(a, b) { }`
	for _, c := range []struct {
		text string
		args []api.Value
		want api.Turn
	}{
		{fibonacci, list(number(10)), api.Turn{Next: 50, Over: api.Ended, State: list(number(55)), Used: 1770}},
		{gcd, list(number(1071), number(462)), api.Turn{Next: 50, Over: api.Ended, State: list(number(21)), Used: 46}},
		{backwards, list(text("ab")), api.Turn{Next: 50, Over: api.Ended, State: list(tuple(number(98), number(1), number(97), number(0))), Used: 44}},
		{backwards, list(tuple(text("ab"))), api.Turn{Next: 50, Over: api.Ended, State: list(tuple(text("ab"), number(0))), Used: 27}},
		{sieve, list(number(8)), api.Turn{Next: 50, Over: api.Ended, State: list(tuple(number(2), number(2), number(3), number(3), number(5), number(5), number(7), number(7))), Used: 455}},
		{many, list(tuple()), api.Turn{Next: 52, Over: api.Became, Role: 1, State: list(tuple(actor(50), actor(51)), truth(0)), Used: 31, Effects: []api.Effect{
			{To: 7, Role: -1, Tag: "x", Args: list(number(1), tuple())}, {To: 50, Role: 1, Args: list(tuple(), actor(7))}, {To: 50, Role: -1, Tag: "z", Args: list(actor(50))}, {To: 51, Role: 0, Args: list(number(0))},
		}}},
		{many, list(text("")), api.Turn{Next: 52, Over: api.Became, Role: 1, State: list(tuple(actor(50), actor(51)), truth(0)), Used: 31, Effects: []api.Effect{
			{To: 7, Role: -1, Tag: "x", Args: list(number(1), text(""))}, {To: 50, Role: 1, Args: list(text(""), actor(7))}, {To: 50, Role: -1, Tag: "y"}, {To: 51, Role: 0, Args: list(number(0))},
		}}},
	} {
		m := compiled(t, c.text)
		c.want.Self = 7
		wantTurn(t, c.text, base.Run(m, begun(t, m, 0, list(number(0)), "go", c.args...), 100000), c.want)
	}
}
