package base_test

import (
	"fmt"
	"math"
	"strings"
	"testing"

	"drover/api"
	"drover/base"
)

// under is a turn of having that goes on with so many frames, two of them at least; each list stands in memory of its own.
func under(frames int) api.Turn {
	t := with(text("a"), tuple(text("b")))
	t.Effects = append(t.Effects, api.Effect{To: 49, Role: 2, Args: list(tuple(tuple(number(1)), number(2)))}, api.Effect{To: 1, Role: -1, Tag: "none"})
	for range frames - 1 {
		t.Frames = append(t.Frames, api.Frame{Fn: fnTwo, At: 1, Vars: many(3, tuple(number(1))), Stack: list(number(5))})
	}
	t.Frames[frames-1] = api.Frame{Fn: fnNone, At: 1, Stack: list(text("top"))}
	return t
}

// wantRight wants that of Right; what is not right, or over, stays as it is (P12.2).
func wantRight(t *testing.T, what string, m api.Module, x api.Turn, want bool) {
	t.Helper()
	ahead := kept(x)
	if base.Right(m, x) != want {
		t.Errorf("%s: Right is not %v of %s", what, want, brief(told(x)))
	}
	if want && x.Over == api.Going {
		if got := base.Run(m, x, 0); got.Trap != trapFuel || alike(base.Step(m, x), ahead) {
			t.Errorf("%s: is not done: %s", what, brief(told(got)))
		}
	} else {
		for _, steps := range []int{math.MinInt, -1, 0, 1, 1000} {
			wantTurn(t, what, base.Run(m, x, steps), x)
		}
		wantTurn(t, what, base.Step(m, x), x)
	}
	if !alike(x, ahead) {
		t.Errorf("%s: it was changed", what)
	}
}

// P12.3: each thing that a turn that goes on must have.
func TestRight(t *testing.T) {
	m := having(api.Ins{Op: api.OSelf})
	long := text(strings.Repeat("x", mostBytes))
	for _, c := range []struct {
		what  string
		do    func(x *api.Turn)
		right bool
	}{
		{"as it is", func(x *api.Turn) {}, true},
		{"no frames", func(x *api.Turn) { x.Frames = nil }, false}, {"one frame", func(x *api.Turn) { x.Frames = x.Frames[:1] }, true}, {"without the body", func(x *api.Turn) { x.Frames = x.Frames[1:] }, false},
		{"another body below", func(x *api.Turn) { x.Frames[0] = api.Frame{Fn: 3} }, false},
		{"a function below", func(x *api.Turn) { x.Frames[0] = x.Frames[1] }, false}, {"a body above", func(x *api.Turn) { x.Frames[1] = x.Frames[0] }, false}, {"another body above", func(x *api.Turn) { x.Frames[1] = api.Frame{Fn: 3} }, false}, {"a body on top", func(x *api.Turn) { x.Frames[2] = x.Frames[0] }, false},
		{"nothing of a stack", func(x *api.Turn) { x.Frames[0].Stack, x.Frames[2].Stack = nil, []api.Value{} }, true},
		{"another role", func(x *api.Turn) { x.Role, x.State = 1, nil }, false}, {"another role, with its body", func(x *api.Turn) { x.Role, x.State, x.Frames[0] = 1, nil, api.Frame{Fn: 3} }, true}, {"another role's state", func(x *api.Turn) { x.Role, x.Frames[0] = 1, api.Frame{Fn: 3} }, false},
		{"a role without bodies", func(x *api.Turn) { x.Role, x.State = 2, x.State[:1] }, false},
		{"role below 0", func(x *api.Turn) { x.Role = -1 }, false}, {"role past the end", func(x *api.Turn) { x.Role = 3 }, false}, {"role far below", func(x *api.Turn) { x.Role = math.MinInt }, false}, {"role far above", func(x *api.Turn) { x.Role = math.MaxInt }, false},
		{"no state", func(x *api.Turn) { x.State = nil }, false}, {"less state", func(x *api.Turn) { x.State = x.State[:1] }, false}, {"more state", func(x *api.Turn) { x.State = append(x.State, number(1)) }, false},
		{"other numbers", func(x *api.Turn) { x.Self, x.Next, x.Used, x.Trap = -1, math.MinInt64, -3, 77 }, true}, {"great numbers", func(x *api.Turn) { x.Self, x.Next, x.Used, x.Trap = math.MaxInt64, math.MaxInt64, math.MaxInt, -1 }, true},
		{"no effects", func(x *api.Turn) { x.Effects = nil }, true}, {"effects of any role", func(x *api.Turn) { x.Effects[0].Role, x.Effects[1].Role, x.Effects[2].To = 99, -2, -5 }, true}, {"effects of many values", func(x *api.Turn) { x.Effects[0].Args = many(1000, long) }, true},
		{"as many frames as may be", func(x *api.Turn) { *x = under(mostCalls) }, true}, {"one frame more", func(x *api.Turn) { *x = under(mostCalls + 1) }, false}, {"far more frames", func(x *api.Turn) { *x = under(2 * mostCalls) }, false},
		{"frames without functions", func(x *api.Turn) { x.Frames = make([]api.Frame, 3) }, false},
	} {
		x := under(3)
		c.do(&x)
		wantRight(t, c.what, m, x, c.right)
		for over := api.Ended; over <= api.Trapped; over++ {
			x.Over = over
			wantRight(t, fmt.Sprint(c.what, ", over ", over), m, x, true)
		}
	}
}

// P12.3: what each frame must have, wherever it stands.
func TestRightFrames(t *testing.T) {
	m := having(api.Ins{Op: api.OSelf})
	code := []int{5, 3, 2} // instructions of the functions that are under way
	for place := range 3 {
		frame := func(what string, right bool, do func(f *api.Frame)) {
			t.Helper()
			x := under(3)
			do(&x.Frames[place])
			wantRight(t, fmt.Sprint(what, " at ", place), m, x, right)
		}
		for _, fn := range []int{math.MinInt, -1, 4, 5, math.MaxInt} {
			frame(fmt.Sprint("fn ", fn), false, func(f *api.Frame) { f.Fn = fn })
		}
		for _, at := range []int{math.MinInt, -1, 0, 1, 2, 3, 4, 5, 6, math.MaxInt} {
			frame(fmt.Sprint("at ", at), at >= 0 && at < code[place], func(f *api.Frame) { f.At = at })
		}
		frame("one variable more", false, func(f *api.Frame) { f.Vars = append(f.Vars, number(1)) })
		if place < 2 {
			frame("one variable less", false, func(f *api.Frame) { f.Vars = f.Vars[1:] })
			frame("no variables", false, func(f *api.Frame) { f.Vars = nil })
		}
		for _, n := range []int{0, 1, mostStack - 1, mostStack, mostStack + 1, 2 * mostStack} {
			frame(fmt.Sprint("a stack of ", n), n <= mostStack, func(f *api.Frame) { f.Stack = many(n, number(1)) })
		}
	}
}

// P12.3: all values that a turn has are right, wherever they stand.
func TestRightValues(t *testing.T) {
	m := having(api.Ins{Op: api.OSelf})
	rights := list(number(math.MinInt64), truth(1), text(strings.Repeat("x", mostBytes)), tuple(many(255, number(0))...), deep(15, number(0)), actor(math.MaxInt64))
	all := append(wrongs(), rights...)
	for i, v := range all {
		right := i >= len(all)-len(rights)
		wrong := func(what string, do func(x *api.Turn)) {
			t.Helper()
			x := under(4)
			do(&x)
			wantRight(t, fmt.Sprint(what, " is ", i), m, x, right)
			x.Over = api.Became
			wantRight(t, fmt.Sprint(what, " of what is over is ", i), m, x, true)
		}
		for n := range 4 {
			vars, stack := under(4).Frames[n].Vars, under(4).Frames[n].Stack
			for k := range vars {
				wrong(fmt.Sprint("variable ", n, k), func(x *api.Turn) { x.Frames[n].Vars[k] = v })
			}
			for k := range stack {
				wrong(fmt.Sprint("stack ", n, k), func(x *api.Turn) { x.Frames[n].Stack[k] = v })
			}
		}
		for k := range 2 {
			wrong(fmt.Sprint("state ", k), func(x *api.Turn) { x.State[k] = v })
			wrong(fmt.Sprint("effect ", k), func(x *api.Turn) { x.Effects[k].Args[0] = v })
		}
		wrong("the last effect", func(x *api.Turn) { x.Effects[2].Args = list(number(1), v) })
	}
}

// P12.3: a module that is not right has no turn that is.
func TestRightModule(t *testing.T) {
	for i, spoil := range []func(m *api.Module){
		func(m *api.Module) { m.Fns[0].Code[1].A = 1 }, func(m *api.Module) { m.Consts[0] = truth(2) }, func(m *api.Module) { m.Fns[1].Vars = 31 }, func(m *api.Module) { m.Roles[2].Params = -1 }, func(m *api.Module) { m.Fns = m.Fns[:3] }, func(m *api.Module) { m.Fns[2].Code = nil },
	} {
		m := having(api.Ins{Op: api.OSelf})
		spoil(&m)
		x := under(3)
		wantRight(t, fmt.Sprint("module ", i), m, x, false)
		for over := range api.Over(6) {
			x.Over = over
			wantRight(t, fmt.Sprint("module ", i, ", over ", over), m, x, false)
		}
	}
	wantRight(t, "a module of nothing", api.Module{}, under(2), false)
	wantRight(t, "a turn of nothing", api.Module{}, api.Turn{}, false)
	wantRight(t, "a turn of nothing that is over", api.Module{}, api.Turn{Over: api.Ended}, true)
}
