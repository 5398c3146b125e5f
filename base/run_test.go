package base_test

import (
	"fmt"
	"math"
	"reflect"
	"slices"
	"testing"

	"drover/api"
	"drover/base"
)

// P12.2: how many steps are done in a call, and what becomes of a turn that goes on then.
func TestSteps(t *testing.T) {
	m := compiled(t, counter)
	fresh := begun(t, m, 0, list(number(3)), "add", number(4))
	fuel := func(used int) api.Turn {
		return api.Turn{Self: 7, Next: 50, Used: used, Over: api.Trapped, Trap: trapFuel, State: list(number(3))}
	}
	ended := api.Turn{Self: 7, Next: 50, Used: 5, Over: api.Ended, State: list(number(7))}
	x := fresh
	for used := range 5 {
		for _, steps := range []int{math.MinInt, -1, 0} {
			wantTurn(t, fmt.Sprint(used, " + ", steps), base.Run(m, x, steps), fuel(used))
		}
		for steps := range 5 - used {
			wantTurn(t, fmt.Sprint(used, " + ", steps), base.Run(m, x, steps), fuel(used+steps))
		}
		for _, steps := range []int{5 - used, 6 - used, 100, math.MaxInt} {
			wantTurn(t, fmt.Sprint(used, " + ", steps), base.Run(m, x, steps), ended)
		}
		if x.Used != used || x.Over != api.Going {
			t.Error(told(x))
		}
		x = base.Step(m, x)
	}
	wantTurn(t, "five steps", x, ended)
	wantTurn(t, "a step more", base.Step(m, x), ended)
	wantTurn(t, "a run more", base.Run(m, x, 0), ended)
	// A turn that has used more already: only those of this call count.
	fresh.Used = 1000
	ended.Used = 1005
	wantTurn(t, "of 1000", base.Run(m, fresh, 5), ended)
	wantTurn(t, "of 1000", base.Run(m, fresh, 4), fuel(1004))
	// Without end.
	m = compiled(t, "func f(a) { while (true) { } } actor c(n) { on loop() { while (n == n) { send self loop(); } } on f() { call f(n); } }")
	for _, tag := range []string{"loop", "f"} {
		wantTurn(t, tag, base.Run(m, begun(t, m, 0, list(number(3)), tag), 12345), fuel(12345))
	}
}

// Of a trap: Next is as it was at the begin of the turn, however many steps ago that is; nothing is done.
func TestNextAtTraps(t *testing.T) {
	text := "actor c(n) { on go(k) { send self a(); let i = 0; while (i < k) { let x = spawn d(); send x b(i); set i = i + 1; } set n = 1 / 0; } on well(k) { spawn c(spawn c(k)); } } actor d() { }"
	m := compiled(t, text)
	for _, next := range []int64{0, 50, 1000, math.MaxInt64 - 3} {
		for spawns := range int64(4) {
			x, _ := base.Begin(m, 0, list(number(3)), "go", list(number(spawns)), 7, next)
			want := api.Turn{Self: 7, Next: next, Over: api.Trapped, Trap: trapZero, State: list(number(3))}
			for x.Over == api.Going {
				want.Trap = trapZero
				got := base.Run(m, x, 1000)
				want.Used = got.Used
				wantTurn(t, fmt.Sprint(next, spawns), got, want)
				want.Trap, want.Used = trapFuel, x.Used
				wantTurn(t, fmt.Sprint(next, spawns), base.Run(m, x, 0), want)
				x = base.Step(m, x)
			}
			want.Trap, want.Used = trapZero, x.Used
			wantTurn(t, fmt.Sprint(next, spawns), x, want)
		}
	}
	// Where nothing traps, Next stays as far as it has come.
	want := api.Turn{Self: 7, Next: 52, Used: 5, Over: api.Ended, State: list(number(3)), Effects: []api.Effect{{To: 50, Args: list(number(5))}, {To: 51, Args: list(actor(50))}}}
	wantTurn(t, "well", base.Run(m, begun(t, m, 0, list(number(3)), "well", number(5)), 100), want)
}

// Who it is and who is spawned next may be any number: what is made of them is as it is.
func TestAnyNumbers(t *testing.T) {
	m := compiled(t, "actor c() { on go() { send self x(self); send spawn c() y(); } on wrap() { let a = (self, 1); } }")
	for _, self := range []int64{math.MinInt64, -1, 0, math.MaxInt64} {
		for _, next := range []int64{math.MinInt64, -1, 0, math.MaxInt64} {
			x, e := base.Begin(m, 0, nil, "go", nil, self, next)
			want := api.Turn{Self: self, Next: next + 1, Used: 6, Over: api.Ended, Effects: []api.Effect{{To: self, Role: -1, Tag: "x", Args: list(actor(self))}, {To: next}, {To: next, Role: -1, Tag: "y"}}}
			wantTurn(t, fmt.Sprint(self, next), base.Run(m, x, 10), want)
			if e != api.OK || !base.Right(m, x) {
				t.Error(self, next, e)
			}
		}
		// An actor below 0 is no right value, and neither is what has it.
		x, _ := base.Begin(m, 0, nil, "wrap", nil, self, 0)
		want := api.Turn{Self: self, Used: 5, Over: api.Ended}
		if self < 0 {
			want = api.Turn{Self: self, Used: 3, Over: api.Trapped, Trap: trapLong}
		}
		wantTurn(t, fmt.Sprint("wrap ", self), base.Run(m, x, 10), want)
	}
}

// lists is where all lists of a turn, or of values, stand that have anything.
func lists(x reflect.Value) (all []uintptr) {
	switch x.Kind() {
	case reflect.Slice:
		if x.Len() > 0 {
			all = append(all, x.Pointer())
		}
		for i := range x.Len() {
			all = append(all, lists(x.Index(i))...)
		}
	case reflect.Struct:
		for i := range x.NumField() {
			all = append(all, lists(x.Field(i))...)
		}
	}
	return all
}

// wantOwn wants that an answer's lists stand apart from one another, and from what was handed in.
func wantOwn(t *testing.T, what string, answer api.Turn, given ...any) {
	t.Helper()
	seen := map[uintptr]bool{}
	for _, g := range given {
		for _, at := range lists(reflect.ValueOf(g)) {
			seen[at] = true
		}
	}
	for _, at := range lists(reflect.ValueOf(answer)) {
		if seen[at] {
			t.Errorf("%s: two lists share memory: %s", what, brief(told(answer)))
			return
		}
		seen[at] = true
	}
}

// R3: answers have memory of their own, wherever their values are from.
func TestOwnMemory(t *testing.T) {
	m := compiled(t, `func same(a) { return a; } actor c(n, k) { on go(a) { let x = (a, a, n); let y = call same(x); set n = x; set k = x[0] ++ y; send self t(x, y, n, a, a); let s = spawn c(x, x); send s u(y[0], y[1], k); a; x; } on turn(a) { become c(a, (a, a)); } on stay(a) { let b = a; stop; } on trap(a) { let b = (a, a); 1 / 0; } }`)
	m.Consts = append(m.Consts, tuple(tuple(number(1)), number(2)))
	m.Fns = append(m.Fns, api.Fn{Name: "const", Params: 2, Vars: 3, Code: []api.Ins{{Op: api.OConst, A: len(m.Consts) - 1}, {Op: api.OStore}, {Op: api.OConst, A: len(m.Consts) - 1}, {Op: api.OStore, A: 1}, {Op: api.OConst, A: len(m.Consts) - 1}, {Op: api.OEnd}}})
	m.Roles[0].On = append(m.Roles[0].On, api.On{Tag: "const", Fn: len(m.Fns) - 1})
	one := tuple(tuple(number(1)), tuple(text("b"), tuple()))
	for _, tag := range []string{"go", "turn", "stay", "trap", "const", "none"} {
		// All that is handed in shares what it has, too.
		state, args := list(one, one), list(one)
		if tag == "const" {
			args = nil
		}
		x, e := base.Begin(m, 0, state, tag, args, 7, 50)
		if e != api.OK {
			t.Error(tag, e)
		}
		wantOwn(t, "Begin of "+tag, x, m, state, args)
		for range 100 {
			for _, steps := range []int{0, 3, 1000} {
				wantOwn(t, "Run of "+tag, base.Run(m, x, steps), m, x)
			}
			next := base.Step(m, x)
			wantOwn(t, "Step of "+tag, next, m, x)
			x = next
		}
		if x.Over == api.Going {
			t.Error(tag, told(x))
		}
	}
	// What stays as it is, too: over, not right, or of no module.
	for i := range 6 {
		x := under(3)
		x.Frames[1].Vars[0], x.Frames[1].Vars[1], x.State[0], x.Effects[0].Args[0], x.Effects[1].Args[0] = one, one, one, one, one
		x.Frames[2].Stack = x.Frames[1].Vars
		x.Effects = append(x.Effects, x.Effects...)
		x.Over = api.Over(i)
		for _, k := range []api.Module{m, {}, having(api.Ins{Op: 77})} {
			wantOwn(t, fmt.Sprint("Run ", i), base.Run(k, x, 10), k, x)
			wantOwn(t, fmt.Sprint("Step ", i), base.Step(k, x), k, x)
			wantTurn(t, fmt.Sprint("Run ", i), base.Run(k, x, 10), x)
		}
	}
}

// R3: the spare room of what is handed in stays as it is, whatever is done.
func TestSpareRoom(t *testing.T) {
	spare := number(77)
	roomy := func(all []api.Value) []api.Value {
		all = append(slices.Clone(all), many(300, spare)...)
		return all[:len(all)-300]
	}
	beyond := func(all []api.Value) []api.Value { return all[len(all) : len(all)+300] }
	for _, c := range taking {
		m := having(c.ins)
		x := with()
		x.State = roomy(x.State)
		x.Effects = append(make([]api.Effect, 0, 9), x.Effects...)
		x.Effects[0].Args = roomy(x.Effects[0].Args)
		x.Frames = append(make([]api.Frame, 0, 9), x.Frames...)
		f := &x.Frames[0]
		f.Vars = roomy(f.Vars)
		f.Stack = roomy(c.took)
		if n := len(f.Stack); n > 0 && f.Stack[n-1].Kind == api.VTuple {
			f.Stack[n-1].L = roomy(f.Stack[n-1].L)
		}
		base.Step(m, x)
		base.Run(m, x, 1000)
		base.Right(m, x)
		for _, l := range [][]api.Value{x.State, x.Effects[0].Args, f.Vars, f.Stack} {
			if len(beyond(l)) != 300 || !slices.ContainsFunc(beyond(l), func(v api.Value) bool { return reflect.DeepEqual(v, spare) }) {
				t.Fatal(c.ins)
			}
			for _, v := range beyond(l) {
				if !reflect.DeepEqual(v, spare) {
					t.Errorf("%v changes spare room", c.ins)
				}
			}
		}
		if !reflect.DeepEqual(x.Effects[1:9], make([]api.Effect, 8)) || !reflect.DeepEqual(x.Frames[1:9], make([]api.Frame, 8)) {
			t.Errorf("%v changes spare room", c.ins)
		}
	}
	m := compiled(t, counter)
	state, args := roomy(list(number(3))), roomy(list(number(4)))
	x, _ := base.Begin(m, 0, state, "add", args, 7, 50)
	base.Run(m, x, 100)
	for _, v := range append(beyond(state), beyond(args)...) {
		if !reflect.DeepEqual(v, spare) {
			t.Error("Begin changes spare room")
		}
	}
	// Of tuples that are joined.
	a, b := tuple(roomy(list(number(1)))...), tuple(roomy(list(number(2)))...)
	m = compiled(t, "actor c(n) { on go(a) { set n = n ++ a; set n = n ++ a; } }")
	a.L, b.L = roomy(a.L), roomy(b.L)
	x, _ = base.Begin(m, 0, list(a), "go", list(b), 7, 50)
	x.State, x.Frames[0].Vars = list(a), list(a, b)
	base.Run(m, x, 100)
	for _, v := range append(beyond(a.L), beyond(b.L)...) {
		if !reflect.DeepEqual(v, spare) {
			t.Error("what is joined stands in spare room")
		}
	}
}

// What one tuple is joined with twice stands apart: the first one stays as it was.
func TestJoinedTwice(t *testing.T) {
	m := compiled(t, "actor c(n) { on go(a, b) { let x = n ++ a; let y = n ++ b; let z = x ++ y; set n = (x, y, n, len(z)); } }")
	for long := range 60 {
		head, one, two := many(long, text("n")), many(3, text("a")), many(2, number(2))
		x, y := tuple(slices.Concat(head, one)...), tuple(slices.Concat(head, two)...)
		got := base.Run(m, begun(t, m, 0, list(tuple(head...)), "go", tuple(one...), tuple(two...)), 1000)
		want := api.Turn{Self: 7, Next: 50, Used: 20, Over: api.Ended, State: list(tuple(x, y, tuple(head...), number(int64(2*long+5))))}
		wantTurn(t, fmt.Sprint(long), got, want)
	}
}

// R1: what stands within itself is no right value, and every call ends.
func TestEndless(t *testing.T) {
	loop := func(n int) api.Value {
		l := make([]api.Value, n)
		for i := range l {
			l[i] = tuple(l...)
		}
		return tuple(l...)
	}
	part := tuple(number(1), number(2))
	part.L[0] = api.Value{Kind: api.VTuple, L: part.L[:1]}
	m := having(api.Ins{Op: api.OSelf})
	for i, v := range list(loop(1), loop(2), loop(1000), part, deep(1<<16, number(1))) {
		if _, e := base.Begin(m, 0, list(v, number(1)), "go", list(number(1)), 7, 50); e != api.ErrArg {
			t.Error(i, e)
		}
		x := under(3)
		x.Frames[1].Vars[1], x.State[0] = v, v
		if base.Right(m, x) {
			t.Error(i)
		}
		for _, got := range []api.Turn{base.Run(m, x, 10), base.Step(m, x)} {
			if len(got.Frames) != 3 || len(got.State) != 2 || len(got.State[0].L) != len(v.L) || &got.State[0].L[0] == &v.L[0] {
				t.Error(i)
			}
		}
	}
}
