package tier_test

import (
	"fmt"
	"math"
	"testing"

	"drover/api"
	"drover/base"
)

// P16.1: how many steps count, and where too few are left: of a step that does Lead and Own, of one that leaves Lead alone; but it may be done only if both are left.
func TestCounts(t *testing.T) {
	m := having(t)
	x := with(number(1), text("v1"))
	x.Used, x.Next, x.Trap = 1000, 77, 5
	over := func(used int) api.Turn { return trapped(x, used, trapFuel) }
	left := ended(x, 3+4, nil, text("v1"), number(-4))
	for _, c := range []struct {
		code  string
		steps int
		want  api.Turn
		begun int
	}{
		// Three steps of two, two and three.
		{"self 2 l1 o1; self 2 l2 o0; end l2 o1", 0, over(0), 1}, {"self 2 l1 o1; self 2 l2 o0; end l2 o1", 1, over(1), 1}, {"self 2 l1 o1; self 2 l2 o0; end l2 o1", 2, over(2), 2}, {"self 2 l1 o1; self 2 l2 o0; end l2 o1", 3, over(3), 2},
		{"self 2 l1 o1; self 2 l2 o0; end l2 o1", 4, over(4), 3}, {"self 2 l1 o1; self 2 l2 o0; end l2 o1", 5, over(5), 3}, {"self 2 l1 o1; self 2 l2 o0; end l2 o1", 6, over(6), 3},
		{"self 2 l1 o1; self 2 l2 o0; end l2 o1", 7, ended(x, 7, nil, number(1), text("v1")), 3}, {"self 2 l1 o1; self 2 l2 o0; end l2 o1", 8, ended(x, 7, nil, number(1), text("v1")), 3}, {"self 2 l1 o1; self 2 l2 o0; end l2 o1", math.MaxInt, ended(x, 7, nil, number(1), text("v1")), 3},
		// Below 0 is as 0.
		{"self 2 l1 o1; end", -1, over(0), 1}, {"self 2 l1 o1; end", math.MinInt, over(0), 1},
		// What does not count may be done with no step left.
		{"self 2 o0; end o0", 0, ended(x, 0, nil, number(1), text("v1")), 2}, {"self 2 o0; end o0", -5, ended(x, 0, nil, number(1), text("v1")), 2}, {"self 2 o0; end o0", math.MinInt, ended(x, 0, nil, number(1), text("v1")), 2}, {"self 2 o0; end", 0, over(0), 2}, {"self 2; end o0", 1, ended(x, 1, nil, number(1), text("v1")), 2},
		// What leaves: Lead alone counts, the interpreter has the rest.
		{"out l3 o1", 2, over(2), 1}, {"out l3 o1", 3, over(3), 1}, {"out l3 o1", 4, over(4), 1}, {"out l3 o1", 6, over(6), 1}, {"out l3 o1", 7, left, 1}, {"out l3 o1", 300, left, 1},
		{"out l3 o0", 2, over(2), 1}, {"out l3 o0", 3, over(3), 1}, {"out l3 o0", 6, over(6), 1}, {"out l3 o0", 7, left, 1}, {"out o0", 0, over(0), 1}, {"out o0", -1, over(0), 1},
		{"not 4 1 l3 o1; end", 3, over(3), 1}, {"not 4 1 l3 o1; end", 4, over(4), 1}, {"not 4 1 l3 o1; end", 7, left, 1}, {"not 4 1 l3 o0; end", 7, left, 1},
		{"self 3 l2 o1; not 4 1 o1; end", 3, over(3), 2}, {"self 3 l2 o1; not 4 1 o1; end", 4, over(4), 2}, {"self 3 l2 o1; not 4 1 o1; end", 6, over(6), 2}, {"self 3 l2 o1; not 4 1 o1; end", 7, left, 2},
		{"self 3 l3 o0; guard 1 1 o0; end", 3, over(3), 2}, {"self 3 l3 o0; guard 1 1 o0; end", 7, left, 2},
		// As much as can be ahead of one step.
		{"self 3 l16384; end l16384", 16384, over(16384), 1}, {"self 3 l16384; end l16384", 16385, over(16385), 2}, {"self 3 l16384; end l16384", 2*16385 - 1, over(2*16385 - 1), 2}, {"self 3 l16384; end l16384", 2 * 16385, ended(x, 2*16385, nil, number(1), text("v1")), 2},
		// Rounds.
		{"self 3 l2; self 3 o0; jump 0 l1 o0", 0, over(0), 1}, {"self 3 l2; self 3 o0; jump 0 l1 o0", 3, over(3), 3}, {"self 3 l2; self 3 o0; jump 0 l1 o0", 4, over(4), 4}, {"self 3 l2; self 3 o0; jump 0 l1 o0", 300, over(300), 226},
	} {
		f := fast(t, m, c.code, back(20, 1))
		wantRun(t, fmt.Sprint(c.code, " with ", c.steps), m, f, x, c.steps, c.want, c.begun)
	}
}

// P16.1: where nothing is left, nothing is done: no effects, the role and the state as they were, and who is spawned next, too.
func TestTooFewSteps(t *testing.T) {
	m := having(t)
	x := with(actor(3))
	f := fast(t, m, "send 0 0 2; const 0 1; const 1 1; send 0 3 0; end", back(0))
	f.Code[3].B = 5
	f.Code = append(laid("self 5"), f.Code...)
	for steps := -2; steps < 6; steps++ {
		wantRun(t, fmt.Sprint(steps), m, f, x, steps, trapped(x, max(steps, 0), trapFuel), max(steps, 0)+1)
	}
	effects := []api.Effect{{To: 3, Role: -1, Tag: "go", Args: list(number(-1), number(-2))}, {To: 7, Role: -1, Tag: "go"}}
	wantRun(t, "enough", m, f, x, 6, ended(x, 6, effects, text("x"), text("x")), 6)
	if told(base.Run(m, x, 0)) != told(trapped(x, 0, trapFuel)) {
		t.Error("the interpreter has another turn that is without steps")
	}
}

// P16.1: the frames of a way back: each variable and each value of the stack from its register, and the interpreter goes on where they are, with what is left.
func TestWaysBack(t *testing.T) {
	m := having(t)
	zero := number(0)
	x := with(text("v0"), text("v1"), text("v2"), text("v3"), text("v4"))
	y := with(text("v0"), text("v1"), number(20), number(30), text("v4"))
	for _, c := range []struct {
		what  string
		x     api.Turn
		exits [][]api.Back
		exit  int
		want  api.Turn
	}{
		{"the begin", x, [][]api.Back{back(0)}, 0, ended(x, 6, nil, tuple(), text("v4"))},
		{"the first of two", x, [][]api.Back{back(0), back(20, 3)}, 0, ended(x, 6, nil, tuple(), text("v4"))},
		{"the second of two", x, [][]api.Back{back(0), back(20, 3)}, 1, ended(x, 4, nil, text("v3"), text("v4"))},
		{"four values", x, [][]api.Back{back(4, 9, 0, 2, 9)}, 0, ended(x, 6, nil, tuple(zero, text("v0"), text("v2"), zero), text("v4"))},
		{"more values than are taken", x, [][]api.Back{back(2, 9, 0, 1, 2)}, 0, ended(x, 6, nil, tuple(text("v1"), text("v2")), text("v4"))},
		{"too few values", x, [][]api.Back{back(2, 9)}, 0, trapped(x, 1, 9)},
		{"another order of variables", x, [][]api.Back{{{Fn: fnBody, At: 20, Vars: []int{4, 3, 2, 1, 0}, Stack: []int{1}}}}, 0, ended(x, 4, nil, text("v1"), text("v0"))},
		{"one register for all", x, [][]api.Back{{{Fn: fnBody, At: 20, Vars: []int{3, 3, 3, 3, 3}, Stack: []int{3, 3}}}}, 0, ended(x, 4, nil, text("v3"), text("v3"))},
		{"as many values as may be", x, [][]api.Back{back(20, many(200, 2)...)}, 0, ended(x, 4, nil, text("v2"), text("v4"))},
		{"one more than may be", x, [][]api.Back{back(21, many(200, 2)...)}, 0, trapped(x, 1, 9)},
		{"a call behind it", y, [][]api.Back{back(6)}, 0, ended(y, 3+4+5, nil, number(50), text("v4"))},
		{"a call that traps", x, [][]api.Back{back(6)}, 0, trapped(x, 6, trapType)},
		{"two frames", x, [][]api.Back{{back(20)[0], {Fn: fnPair, At: 0, Vars: []int{1, 8}}}}, 0, ended(x, 4+4, nil, tuple(text("v1"), zero), text("v4"))},
		{"two frames, with values", x, [][]api.Back{{back(2, 3)[0], {Fn: fnPair, At: 2, Vars: []int{9, 9}, Stack: []int{0, 2}}}}, 0, ended(x, 2+6, nil, tuple(text("v3"), tuple(text("v0"), text("v2"))), text("v4"))},
		{"two frames, the upper one with more values", x, [][]api.Back{{back(2, 3)[0], {Fn: fnPair, At: 3, Vars: []int{9, 9}, Stack: []int{0, 1, 2}}}}, 0, ended(x, 1+6, nil, tuple(text("v3"), text("v2")), text("v4"))},
		{"three frames", y, [][]api.Back{{back(20)[0], {Fn: fnPair, At: 1, Vars: []int{2, 1}, Stack: []int{}}, {Fn: fnSum, At: 3, Vars: []int{2, 2}, Stack: []int{3}}}}, 0, ended(y, 1+3+4, nil, tuple(number(30), text("v1")), text("v4"))},
		{"three frames of one function", y, [][]api.Back{{back(20, 4)[0], {Fn: fnSum, At: 2, Vars: []int{9, 9}, Stack: []int{3}}, {Fn: fnSum, At: 0, Vars: []int{2, 3}}}}, 0, ended(y, 4+2+4, nil, number(80), text("v4"))},
		{"a stack that is full below", x, [][]api.Back{{back(20, many(200, 2)...)[0], {Fn: fnPair, At: 3, Vars: []int{9, 9}, Stack: []int{0}}}}, 0, trapped(x, 1, 9)},
	} {
		f := fast(t, m, "self 6 l2; out l1 o1", c.exits...)
		f.Code[1].Exit = c.exit
		c.want.Used += 4
		wantRun(t, c.what, m, f, c.x, 300, c.want, 2)
		// With as many steps as it takes, and with one less.
		used := c.want.Used
		wantRun(t, c.what+" to the step", m, f, c.x, used, c.want, 2)
		wantRun(t, c.what+" and a step less", m, f, c.x, used-1, trapped(c.x, used-1, trapFuel), 2)
	}
	// What the registers have when it leaves, not what they had.
	f := fast(t, m, "move 4 0; const 3 1; self 6; out", back(2, 3, 6))
	wantRun(t, "changed", m, f, x, 300, ended(x, 3+6, nil, tuple(text("x"), actor(7)), text("v0")), 4)
	// A stop, of a role without values.
	z := api.Turn{Frames: []api.Frame{{Fn: fnBare}}, Self: 7, Next: 50, Role: 1}
	stopped := ended(z, 3, nil)
	stopped.Over = api.Stopped
	wantRun(t, "a stop", m, api.Fast{Fn: fnBare, Code: laid("out l2"), Exits: [][]api.Back{{{Fn: fnBare}}}}, z, 300, stopped, 1)
	// It may lead back to the begin, again and again: the interpreter does not come back to the code.
	loop := having(t)
	loop.Fns[fnBody].Code[1].A = 1
	wantRun(t, "a loop", loop, fast(t, loop, "out", back(0)), x, 300, trapped(x, 300, trapFuel), 1)
}

// many is so many of a number.
func many(n, of int) []int {
	all := make([]int, n)
	for i := range all {
		all[i] = of
	}
	return all
}

// P16.1: frames that the interpreter does not take: the turn goes on still, as it was when the code was left. An actor below 0 is no right value.
func TestGoingStill(t *testing.T) {
	m := having(t)
	x := with(text("v0"), text("v1"), text("v2"), text("v3"), text("v4"))
	x.Self, x.Used, x.Trap = -7, 1000, 5
	below := actor(-7)
	effect := []api.Effect{{To: -7, Role: -1, Tag: "a", Args: list(text("v0"))}}
	for _, c := range []struct {
		what, code string
		way        []api.Back
		want       []api.Frame
		effects    []api.Effect
		begun      int
	}{
		{"a variable", "self 2; out l3", back(2, 0, 1), []api.Frame{{Fn: fnBody, At: 2, Vars: list(text("v0"), text("v1"), below, text("v3"), text("v4")), Stack: list(text("v0"), text("v1"))}}, nil, 2},
		{"a value of the stack", "self 9; out l3", back(2, 0, 9), []api.Frame{{Fn: fnBody, At: 2, Vars: x.Frames[0].Vars, Stack: list(text("v0"), below)}}, nil, 2},
		{"a frame above", "self 9; guard 0 1 l3; end", []api.Back{back(2, 1)[0], {Fn: fnSum, At: 1, Vars: []int{0, 9}}, {Fn: fnPair, Vars: []int{8, 1}, Stack: []int{2}}}, []api.Frame{
			{Fn: fnBody, At: 2, Vars: x.Frames[0].Vars, Stack: list(text("v1"))}, {Fn: fnSum, At: 1, Vars: list(text("v0"), below)}, {Fn: fnPair, Vars: list(number(0), text("v1")), Stack: list(text("v2"))},
		}, nil, 2},
		{"sends ahead of it", "self 9 o0; move 10 0 o0; send 1 9 1; not 0 9 l3; end", back(20, 9), []api.Frame{{Fn: fnBody, At: 20, Vars: x.Frames[0].Vars, Stack: list(below)}}, effect, 4},
		{"a send of it", "self 9 o0; self 10 o0; send 1 9 1; out l3", back(20, 0), []api.Frame{{Fn: fnBody, At: 20, Vars: x.Frames[0].Vars, Stack: list(text("v0"))}}, []api.Effect{{To: -7, Role: -1, Tag: "a", Args: list(below)}}, 4},
	} {
		want := x
		want.Frames, want.Effects, want.Used = c.want, c.effects, 1000+4
		f := fast(t, m, c.code, c.way)
		for _, steps := range []int{5, 6, 300} {
			wantRun(t, c.what, m, f, x, steps, want, c.begun)
		}
		wantRun(t, c.what+" and too few steps", m, f, x, 4, trapped(x, 4, trapFuel), c.begun)
		// Of an actor from 0 on it is right.
		y := x
		y.Self = 7
		if got := runOf(m, f, y); got.Over == api.Going {
			t.Error(c.what, told(got))
		}
	}
	// What has it may stand where nobody asks for it.
	wantRun(t, "nowhere", m, fast(t, m, "self 9; out l3", back(20, 0)), x, 300, ended(x, 1+3+4, nil, text("v0"), text("v4")), 2)
	wantRun(t, "an end", m, fast(t, m, "self 9; move 0 9; send 1 9 1; end", back(20, 0)), x, 300, ended(x, 4, []api.Effect{{To: -7, Role: -1, Tag: "a", Args: list(number(0))}}, below, text("v1")), 4)
}
