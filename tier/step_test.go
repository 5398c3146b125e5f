package tier_test

import (
	"fmt"
	"math"
	"slices"
	"strings"
	"testing"

	"drover/api"
	"drover/base"
	"drover/value"
)

// operands are values of each kind, and the numbers at which something ends.
func operands() []api.Value {
	all := list(truth(false), truth(true), text(""), text("ab"), tuple(), tuple(number(1), truth(true)), actor(0), actor(9), actor(math.MaxInt64))
	for _, n := range []int64{0, 1, -1, 2, -2, 3, -7, 1 << 31, 1 << 32, -1 << 32, math.MaxInt64 - 1, math.MaxInt64, math.MinInt64, math.MinInt64 + 1} {
		all = append(all, number(n))
	}
	return all
}

// byBase is what the interpreter makes of values by an instruction, or false, if it traps.
func byBase(i api.Ins, values ...api.Value) (api.Value, bool) {
	m := api.Module{Fns: []api.Fn{{Code: []api.Ins{i, {Op: api.OEnd}}}}, Roles: []api.Part{{On: []api.On{{}}}}}
	x := base.Step(m, api.Turn{Frames: []api.Frame{{Stack: values}}})
	if x.Over != api.Going {
		return api.Value{}, false
	}
	return x.Frames[0].Stack[len(x.Frames[0].Stack)-1], true
}

// wantMade wants that a step makes that value of the variables 2 and 3, and nothing else; where there is none, that it leaves, with all as it was.
func wantMade(t *testing.T, m api.Module, step string, a, b, want api.Value, does bool) {
	t.Helper()
	what := fmt.Sprint(step, " of ", value.Show(a), " ", value.Show(b))
	x := with(number(1), text("v1"), a, b, text("v4"))
	// Lead counts either way, Own if it does. What the variables are then is sent.
	f := fast(t, m, step+" l2 o1; self 5; move 6 0; move 7 1; move 8 2; move 9 3; move 10 4; send 0 5 5; end", back(20, 2))
	if !does {
		wantRun(t, what, m, f, x, 300, ended(x, 2+4, nil, a, text("v4")), 1)
		return
	}
	// It may also be put where what it is made of stands.
	for made := 2; made < 5; made++ {
		f.Code[0].A = made
		vars := slices.Clone(x.Frames[0].Vars)
		vars[made] = want
		effects := []api.Effect{{To: 7, Role: -1, Tag: "go", Args: vars}}
		wantRun(t, what, m, f, x, 300, ended(x, 2+9, effects, number(1), text("v1")), 9)
	}
}

// P16.1: what is made of two values, or by which way back it leaves: of numbers all that the interpreter does not trap at.
func TestOfTwo(t *testing.T) {
	m := having(t)
	for step, op := range map[string]api.Op{
		"add": api.OAdd, "sub": api.OSub, "mul": api.OMul, "div": api.ODiv, "mod": api.OMod,
		"lt": api.OLt, "le": api.OLe, "gt": api.OGt, "ge": api.OGe, "eq": api.OEq, "ne": api.ONe,
	} {
		for _, a := range operands() {
			for _, b := range operands() {
				want, does := byBase(api.Ins{Op: op}, a, b)
				if step != "eq" && step != "ne" {
					// The interpreter orders bytes, too.
					does = does && a.Kind == api.VInt && b.Kind == api.VInt
				}
				wantMade(t, m, step+" 4 2 3", a, b, want, does)
			}
		}
	}
}

// P16.1: numbers at the end of what 64 bits hold, told here one by one.
func TestNumbers(t *testing.T) {
	m := having(t)
	const most, least = math.MaxInt64, math.MinInt64
	for _, c := range []struct {
		step    string
		a, b, n int64
		does    bool
	}{
		{"add", 3, 4, 7, true}, {"add", most, 0, most, true}, {"add", 0, most, most, true}, {"add", most, 1, 0, false}, {"add", 1, most, 0, false}, {"add", most, most, 0, false}, {"add", most, least, -1, true}, {"add", least, -1, 0, false}, {"add", -1, least, 0, false}, {"add", least, least, 0, false}, {"add", least, 0, least, true}, {"add", least + 1, -1, least, true},
		{"sub", 3, 4, -1, true}, {"sub", most, -1, 0, false}, {"sub", most, 0, most, true}, {"sub", -1, most, least, true}, {"sub", -2, most, 0, false}, {"sub", least, 1, 0, false}, {"sub", 0, least, 0, false}, {"sub", -1, least, most, true}, {"sub", least, least, 0, true}, {"sub", least, 0, least, true},
		{"mul", 3, -4, -12, true}, {"mul", 0, least, 0, true}, {"mul", least, 0, 0, true}, {"mul", least, -1, 0, false}, {"mul", -1, least, 0, false}, {"mul", least, 1, least, true}, {"mul", 1, least, least, true}, {"mul", most, -1, -most, true}, {"mul", 1 << 31, 1 << 32, 0, false}, {"mul", -1 << 31, 1 << 32, least, true}, {"mul", 1 << 32, 1 << 32, 0, false}, {"mul", most, 2, 0, false}, {"mul", 3037000500, 3037000500, 0, false}, {"mul", 3037000499, 3037000499, 9223372030926249001, true},
		{"div", 7, 2, 3, true}, {"div", -7, 2, -3, true}, {"div", 7, -2, -3, true}, {"div", -7, -2, 3, true}, {"div", 7, 0, 0, false}, {"div", 0, 0, 0, false}, {"div", 0, 5, 0, true}, {"div", least, -1, 0, false}, {"div", least, 1, least, true}, {"div", -1, least, 0, true}, {"div", most, -1, -most, true},
		{"mod", 7, 2, 1, true}, {"mod", -7, 2, -1, true}, {"mod", 7, -2, 1, true}, {"mod", -7, -2, -1, true}, {"mod", 7, 0, 0, false}, {"mod", 0, 0, 0, false}, {"mod", least, -1, 0, true}, {"mod", 5, least, 5, true}, {"mod", least, most, -1, true},
	} {
		wantMade(t, m, c.step+" 4 2 3", number(c.a), number(c.b), number(c.n), c.does)
	}
	for _, c := range []struct {
		step                string
		below, same, higher bool
	}{{"lt", true, false, false}, {"le", true, true, false}, {"gt", false, false, true}, {"ge", false, true, true}, {"eq", false, true, false}, {"ne", true, false, true}} {
		for _, two := range [][2]int64{{0, 1}, {-1, 0}, {least, most}, {least, 0}, {5, 6}} {
			lower, upper := number(two[0]), number(two[1])
			wantMade(t, m, c.step+" 4 2 3", lower, upper, truth(c.below), true)
			wantMade(t, m, c.step+" 4 2 3", lower, lower, truth(c.same), true)
			wantMade(t, m, c.step+" 4 2 3", upper, lower, truth(c.higher), true)
		}
	}
}

// P16.1: what is made of one value, or of none.
func TestOfOne(t *testing.T) {
	m := having(t)
	for _, a := range operands() {
		wantMade(t, m, "move 4 2", a, number(5), a, true)
		wantMade(t, m, "move 4 3", number(5), a, a, true)
		wantMade(t, m, "not 4 2", a, number(5), truth(a.N == 0), a.Kind == api.VBool)
		wantMade(t, m, "eq 4 2 2", a, number(5), truth(true), true)
		wantMade(t, m, "ne 4 2 2", a, number(5), truth(false), true)
		wantMade(t, m, "self 4", a, a, actor(7), true)
		for at, c := range m.Consts {
			wantMade(t, m, fmt.Sprint("const 4 ", at), a, a, c, true)
		}
	}
	wantMade(t, m, "eq 4 2 3", tuple(text("a"), tuple()), tuple(text("a"), tuple()), truth(true), true)
	wantMade(t, m, "ne 4 2 3", tuple(text("a"), tuple()), tuple(text("a"), tuple(tuple())), truth(true), true)
	for _, self := range []int64{0, 1, math.MaxInt64, -1, math.MinInt64} {
		x := with()
		x.Self = self
		wantRun(t, fmt.Sprint("self ", self), m, fast(t, m, "self 0; end"), x, 300, ended(x, 2, nil, actor(self), number(-1)), 2)
	}
}

// P16.1: a guard lets that kind pass alone.
func TestGuard(t *testing.T) {
	m := having(t)
	for kind := api.VInt; kind <= api.VActor; kind++ {
		for _, a := range operands() {
			what := fmt.Sprint(kind, value.Show(a))
			x := with(number(1), text("v1"), a)
			for _, own := range []int{0, 1} {
				f := fast(t, m, fmt.Sprintf("guard 2 %d l3 o%d; move 0 2; end", kind, own), back(2, 2, 1))
				if a.Kind == kind {
					wantRun(t, what, m, f, x, 300, ended(x, 5+own, nil, a, text("v1")), 3)
				} else {
					wantRun(t, what, m, f, x, 300, ended(x, 3+6, nil, tuple(a, text("v1")), number(-4)), 1)
				}
			}
		}
	}
}

// P16.1: what leads elsewhere.
func TestJumps(t *testing.T) {
	m := having(t)
	for _, a := range operands() {
		x := with(number(1), text("v1"), a)
		f := fast(t, m, "if 3 2 l1 o1; const 0 1; end l7; const 0 2; end l8", back(2, 2, 1))
		want, begun := ended(x, 2+1+8, nil, text("x"), text("v1")), 3
		switch {
		case a.Kind != api.VBool:
			want, begun = ended(x, 1+6, nil, tuple(a, text("v1")), number(-4)), 1
		case a.N == 0:
			want, begun = ended(x, 2+1+9, nil, m.Consts[cTuple], text("v1")), 3
		}
		wantRun(t, value.Show(a), m, f, x, 300, want, begun)
	}
	x := with(number(1), text("v1"))
	wantRun(t, "a jump", m, fast(t, m, "jump 2; end; const 0 1; end"), x, 300, ended(x, 3, nil, text("x"), text("v1")), 3)
	wantRun(t, "a jump back", m, fast(t, m, "jump 2; end; const 0 1; jump 1"), x, 300, ended(x, 4, nil, text("x"), text("v1")), 4)
	wantRun(t, "a jump to itself", m, fast(t, m, "jump 0"), x, 300, trapped(x, 300, trapFuel), 301)
	wantRun(t, "a jump to the first", m, fast(t, m, "const 0 1 o0; jump 0 l7 o0"), x, 300, trapped(x, 300, trapFuel), 2*42+2)
	// Of 10 down to 0: each round a step of each.
	f := fast(t, m, "add 0 0 2; sub 2 2 1; lt 4 5 2; not 4 4; if 0 4; end", back(0))
	x = with(number(0), number(1), number(10))
	wantRun(t, "rounds", m, f, x, 300, ended(x, 10*5+1, nil, number(55), number(1)), 10*5+1)
	x = with(number(0), number(2), number(10))
	f = fast(t, m, "add 0 0 2; sub 2 2 1; lt 4 5 2; if 5 4; jump 0; end", back(0))
	wantRun(t, "rounds", m, f, x, 300, ended(x, 5*5, nil, number(30), number(2)), 5*5)
}

// P16.1: what is sent: to whom, the tag, as many values of the registers behind as it says.
func TestSend(t *testing.T) {
	m := having(t)
	for _, a := range operands() {
		for values := range 4 {
			what := fmt.Sprint(values, " to ", value.Show(a))
			x := with(number(1), a, text("v2"), truth(true), text("v4"))
			f := fast(t, m, fmt.Sprintf("send 2 1 %d l1 o1; send 1 1 0 l2 o0; end", values), back(2, 1, 2))
			if a.Kind == api.VActor {
				effects := []api.Effect{{To: a.N, Role: -1, Tag: "b", Args: x.Frames[0].Vars[2 : 2+values]}, {To: a.N, Role: -1, Tag: "a"}}
				wantRun(t, what, m, f, x, 300, ended(x, 5, effects, number(1), a), 3)
			} else {
				wantRun(t, what, m, f, x, 300, ended(x, 1+6, nil, tuple(a, text("v2")), text("v4")), 1)
			}
		}
	}
	// What was sent stays, where the code leaves behind it; the interpreter puts its own behind it.
	x := with(number(1), actor(3), text("v2"))
	effects := []api.Effect{{To: 3, Role: -1, Tag: "go", Args: list(text("v2"))}, {To: 3, Role: -1, Tag: "a"}}
	wantRun(t, "left", m, fast(t, m, "send 0 1 1; send 1 1 0; out l4", back(2, 1, 2)), x, 300, ended(x, 6+6, effects, tuple(actor(3), text("v2")), number(-4)), 3)
	// What is sent is what the registers have then.
	x = with(number(1), actor(3), text("v2"))
	effects = []api.Effect{{To: 3, Role: -1, Tag: "a", Args: list(text("v2"))}, {To: 3, Role: -1, Tag: "a", Args: list(text("x"))}, {To: 5, Role: -1, Tag: "a", Args: list(text("x"))}}
	wantRun(t, "changed", m, fast(t, m, "send 1 1 1; const 2 1; send 1 1 1; const 1 4; send 1 1 1; end", back(2)), x, 300, ended(x, 6, effects, number(1), actor(5)), 6)
	// Where a turn traps, nothing is sent.
	wantRun(t, "too few steps", m, fast(t, m, "send 1 1 1; jump 0", back(2)), x, 299, trapped(x, 299, trapFuel), 300)
	// To an actor below 0, as self may be.
	x.Self = -7
	wantRun(t, "below 0", m, fast(t, m, "self 3; send 1 3 0; end", back(2)), x, 300, ended(x, 3, []api.Effect{{To: -7, Role: -1, Tag: "a"}}, number(1), actor(3)), 3)
	// As many values as can be, up to the last register.
	f := fast(t, m, "end", back(2))
	f.Regs, f.Code = 300, laid("const 299 2; self 44; send 1 44 255; end")
	args := slices.Repeat(list(number(0)), mostParts)
	args[mostParts-1] = m.Consts[cTuple]
	x = with(number(1))
	wantRun(t, "255", m, f, x, 300, ended(x, 4, []api.Effect{{To: 7, Role: -1, Tag: "a", Args: args}}, number(1), number(-1)), 4)
}

// P16.1: tuples of registers, unless that is not right.
func TestTuple(t *testing.T) {
	m := having(t)
	x := with(number(1), text("v1"), tuple(truth(true)), actor(4), text("v4"))
	for first := range 11 {
		for many := 0; first+many <= 11; many++ {
			regs := slices.Concat(x.Frames[0].Vars, slices.Repeat(list(number(0)), 6))
			f := fast(t, m, fmt.Sprintf("tuple 0 %d %d; end", first, many), back(2))
			wantRun(t, fmt.Sprint(first, many), m, f, x, 300, ended(x, 2, nil, tuple(regs[first:first+many]...), text("v1")), 2)
		}
	}
	// From the end of the registers on there are none.
	f := fast(t, m, "tuple 0 10 1; tuple 0 10 0; end", back(2))
	wantRun(t, "none", m, f, x, 300, ended(x, 3, nil, tuple(), text("v1")), 3)
	// What is right as it stands, but is too much, or too deep, in a tuple.
	for _, c := range []struct {
		a, b api.Value
		does bool
	}{
		{tuple(slices.Repeat(list(number(1)), 100)...), tuple(slices.Repeat(list(number(1)), mostPieces-104)...), true},
		{tuple(slices.Repeat(list(number(1)), 100)...), tuple(slices.Repeat(list(number(1)), mostPieces-103)...), true},
		{tuple(slices.Repeat(list(number(1)), 100)...), tuple(slices.Repeat(list(number(1)), mostPieces-102)...), false},
		{tuple(slices.Repeat(list(number(1)), mostPieces-1)...), number(1), false},
		{deep(deepest-2, number(1)), number(1), true}, {deep(deepest-1, number(1)), number(1), false}, {number(1), deep(deepest-1, tuple()), false}, {number(1), deep(deepest-2, tuple()), true},
		{text(strings.Repeat("x", mostBytes)), text(strings.Repeat("y", mostBytes)), true},
	} {
		wantMade(t, m, "tuple 4 2 2", c.a, c.b, tuple(c.a, c.b), c.does)
	}
	// By 255 registers: with the tuple these are as many values as may be.
	f = fast(t, m, "end", back(20, 2))
	f.Regs, f.Code = 300, laid("tuple 0 40 255; end")
	wantRun(t, "255", m, f, x, 300, ended(x, 2, nil, tuple(slices.Repeat(list(number(0)), 255)...), text("v1")), 2)
	f.Code = laid("tuple 294 0 0; tuple 0 40 255; end")
	wantRun(t, "255 with an empty one", m, f, x, 300, ended(x, 3, nil, tuple(append(slices.Repeat(list(number(0)), 254), tuple())...), text("v1")), 3)
	f.Code = laid("tuple 294 0 1; tuple 0 40 255; end")
	wantRun(t, "255 with one of one", m, f, x, 300, ended(x, 1+4, nil, x.Frames[0].Vars[2], text("v4")), 2)
	// An actor below 0 is no right value.
	x.Self = -7
	wantRun(t, "below 0", m, fast(t, m, "self 8; tuple 0 8 1; end", back(20, 2)), x, 300, ended(x, 1+4, nil, x.Frames[0].Vars[2], text("v4")), 2)
}

// P16.1: the state behind an end is as many registers as the turn's role has values.
func TestEnd(t *testing.T) {
	m := having(t)
	x := with(number(1), text("v1"), number(2))
	x.Trap = 77
	for _, lead := range []int{0, 1, 5} {
		for own := range 2 {
			wantRun(t, "of two", m, fast(t, m, fmt.Sprintf("end l%d o%d", lead, own)), x, 300, ended(x, lead+own, nil, number(1), text("v1")), 1)
		}
	}
	wantRun(t, "changed", m, fast(t, m, "move 0 2; const 1 3; const 2 1; end"), x, 300, ended(x, 4, nil, number(2), truth(true)), 4)
	y := api.Turn{Frames: []api.Frame{{Fn: fnBare}}, Self: 7, Next: 50, Role: 1}
	f := api.Fast{Fn: fnBare, Regs: 0, Code: laid("end")}
	wantRun(t, "of none", m, f, y, 300, ended(y, 1, nil), 1)
	f = api.Fast{Fn: fnBare, Regs: 1000, Code: laid("self 999; end")}
	wantRun(t, "of none, with registers", m, f, y, 300, ended(y, 2, nil), 2)
	z := api.Turn{Frames: []api.Frame{{Fn: fnOther, Vars: list(number(1), number(2), number(3))}}, Self: 7, Next: 50, State: list(number(4), number(5))}
	f = api.Fast{Fn: fnOther, Regs: 3, Code: laid("move 1 2; end")}
	wantRun(t, "of another body", m, f, z, 300, ended(z, 2, nil, number(1), number(3)), 2)
}

// P16.1: the registers at the begin: the variables, then the Int 0 each.
func TestRegisters(t *testing.T) {
	m := having(t)
	x := with(text("v0"), tuple(), truth(true), actor(3), text("v4"))
	for _, regs := range []int{5, 6, 250, 251, mostRegs} {
		f := fast(t, m, "end", back(20, 2))
		f.Regs = regs
		many := min(regs, mostParts)
		f.Code = laid(fmt.Sprintf("tuple 0 0 %d; tuple 1 %d %d; end", many-5, regs-2, 2))
		all := slices.Concat(x.Frames[0].Vars, slices.Repeat(list(number(0)), regs-5))
		wantRun(t, fmt.Sprint(regs, " registers"), m, f, x, 300, ended(x, 3, nil, tuple(all[:many-5]...), tuple(all[regs-2:]...)), 3)
	}
}
