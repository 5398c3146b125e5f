package tier_test

import (
	"fmt"
	"math"
	"math/rand/v2"
	"slices"
	"testing"

	"drover/api"
	"drover/base"
	"drover/ir"
	"drover/tier"
)

// maker makes codes and turns of a module by chance (always the same ones).
type maker struct {
	*rand.Rand
	m      api.Module
	bodies []int // the functions that are bodies of roles
}

// one is one of a list.
func one[T any](r *maker, all ...T) T {
	return all[r.IntN(len(all))]
}

// value is a right one, mostly of that kind.
func (r *maker) value(kind api.Kind) api.Value {
	if r.IntN(12) == 0 {
		kind = api.Kind(1 + r.IntN(5))
	}
	switch kind {
	case api.VBool:
		return truth(r.IntN(2) == 1)
	case api.VBytes:
		return text(one(r, "", "a", "ab"))
	case api.VTuple:
		return one(r, tuple(), tuple(number(1), text("b")), deep(r.IntN(deepest), number(2)))
	case api.VActor:
		return actor(r.Int64N(9))
	}
	if r.IntN(10) == 0 {
		return number(one[int64](r, math.MaxInt64, math.MinInt64, 0))
	}
	return number(r.Int64N(9) - 2)
}

// kindOf is of which kind a register mostly is.
func kindOf(register int) api.Kind {
	return [...]api.Kind{api.VInt, api.VActor, api.VBool, api.VInt, api.VTuple, api.VInt}[register%6]
}

// register is one of so many, mostly of that kind.
func (r *maker) register(regs int, kind api.Kind) int {
	n := r.IntN(regs)
	for range 30 {
		if kindOf(n) == kind || r.IntN(40) == 0 {
			break
		}
		n = r.IntN(regs)
	}
	return n
}

// registers are so many.
func (r *maker) registers(regs, many int) []int {
	var all []int
	for range many {
		all = append(all, r.IntN(regs))
	}
	return all
}

// step is one of such a code, which may be.
func (r *maker) step(f *api.Fast, steps int) api.Spec {
	s := api.Spec{Op: api.FOp(1 + r.IntN(21)), Lead: max(0, r.IntN(6)-3), Own: r.IntN(2), Exit: -1}
	if r.IntN(60) == 0 {
		s.Op = api.FOut
	}
	is := func(kind api.Kind) int { return r.register(f.Regs, kind) }
	leaves := func() { s.Exit = r.IntN(len(f.Exits)) }
	switch s.Op {
	case api.FMove:
		s.B = r.IntN(f.Regs)
		s.A = is(kindOf(s.B))
	case api.FConst:
		s.B = r.IntN(len(r.m.Consts))
		s.A = is(r.m.Consts[s.B].Kind)
	case api.FSelf:
		s.A = is(api.VActor)
	case api.FGuard:
		s.A = r.IntN(f.Regs)
		s.B = int(one(r, kindOf(s.A), kindOf(s.A), kindOf(s.A), api.Kind(1+r.IntN(5))))
		leaves()
	case api.FNot:
		s.A, s.B = is(api.VBool), is(api.VBool)
		leaves()
	case api.FEq, api.FNe:
		s.A, s.B, s.C = is(api.VBool), r.IntN(f.Regs), r.IntN(f.Regs)
	case api.FJump:
		s.A = r.IntN(steps)
	case api.FIf:
		s.A, s.B = r.IntN(steps), is(api.VBool)
		leaves()
	case api.FSend:
		s.A, s.B = r.IntN(len(r.m.Tags)), is(api.VActor)
		s.C = r.IntN(min(f.Regs-s.B, 5))
		leaves()
	case api.FTuple:
		s.A, s.B = is(api.VTuple), r.IntN(f.Regs)
		s.C = r.IntN(min(f.Regs-s.B+1, 5))
		leaves()
	case api.FOut:
		leaves()
	case api.FLt, api.FLe, api.FGt, api.FGe:
		s.A, s.B, s.C = is(api.VBool), is(api.VInt), is(api.VInt)
		leaves()
	case api.FAdd, api.FSub, api.FMul, api.FDiv, api.FMod:
		s.A, s.B, s.C = is(api.VInt), is(api.VInt), is(api.VInt)
		leaves()
	}
	if (s.Op == api.FJump || s.Op == api.FIf) && s.Lead+s.Own == 0 {
		s.Own = 1
	}
	return s
}

// wayBack is one of such a code.
func (r *maker) wayBack(f *api.Fast) []api.Back {
	var way []api.Back
	fn := f.Fn
	for range one(r, 1, 1, 2, 3) {
		g := r.m.Fns[fn]
		way = append(way, api.Back{Fn: fn, At: r.IntN(len(g.Code)), Vars: r.registers(f.Regs, g.Vars), Stack: r.registers(f.Regs, r.IntN(5))})
		for fn = f.Fn; slices.Contains(r.bodies, fn); {
			fn = r.IntN(len(r.m.Fns))
		}
	}
	return way
}

// code is one of a body.
func (r *maker) code(fn int) api.Fast {
	f := api.Fast{Fn: fn, Regs: max(1, r.m.Fns[fn].Vars) + r.IntN(9)}
	for range 1 + r.IntN(3) {
		f.Exits = append(f.Exits, r.wayBack(&f))
	}
	steps := 1 + r.IntN(24)
	for range steps {
		f.Code = append(f.Code, r.step(&f, steps))
	}
	for last := &f.Code[steps-1]; last.Op != api.FJump && last.Op != api.FEnd && last.Op != api.FOut; {
		*last = r.step(&f, steps)
	}
	for range r.IntN(3) {
		n := r.IntN(len(r.m.Fns))
		f.Needs = append(f.Needs, api.Need{Fn: n, Sum: ir.Sum(r.m, n)})
	}
	return f
}

// turn begins one of an On of a role; its own variables may be anything.
func (r *maker) turn(t *testing.T, role, on int) api.Turn {
	t.Helper()
	part := r.m.Roles[role]
	values := func(first, many int) []api.Value {
		var all []api.Value
		for k := range many {
			all = append(all, r.value(kindOf(first+k)))
		}
		return all
	}
	self := one[int64](r, 7, 7, 7, 0, math.MaxInt64, -1, math.MinInt64)
	x, e := base.Begin(r.m, role, values(0, part.Params), part.On[on].Tag, values(part.Params, part.On[on].Params), self, 1000)
	if e != api.OK || x.Over != api.Going {
		t.Fatal(e, told(x))
	}
	vars := x.Frames[0].Vars
	for k := part.Params + part.On[on].Params; k < len(vars); k++ {
		vars[k] = r.value(kindOf(k))
	}
	x.Used = r.IntN(3)
	return x
}

// programs are those that codes are made of by chance.
var programs = []string{
	"func same(a) { return a; } actor c(n) { on add(x) { set n = n + x; } on none() { send self add(1); } }",
	"func one(a) { let b = a; return (a, b); } func two(a, b) { return call one(a + b); } actor c(n, k) { on go(x) { let y = call two(n, x); let i = 0; while (i < 4) { set i = i + 1; set n = n + i; send self go(y); } } on by() { stop; } } actor d(s) { on go(x, y, z) { become c(x, (y, z)); } }",
	"func loop(a) { while (a < 5) { set a = a + 1; } return a; } func text(a) { return \"x\" ++ a; } actor c() { on go(x) { if (x && true || self == x) { let k = spawn d(x, call text(\"y\")); send k a(len(k)); } else { set x = call loop(0); } } on empty() { } } actor d(a, b) { on a(x) { set a = -x; set b = (a, b)[0]; become d(b, a); } }",
}

// P16.1: codes by chance, of turns by chance, with steps by chance, against the second way.
func TestByChance(t *testing.T) {
	ends := map[string]int{}
	rounds := 0
	for seed := range uint64(15000) {
		r := &maker{Rand: rand.New(rand.NewPCG(16, seed))}
		r.m = compiled(t, programs[seed%3])
		for _, part := range r.m.Roles {
			for _, on := range part.On {
				r.bodies = append(r.bodies, on.Fn)
			}
		}
		role := r.IntN(len(r.m.Roles))
		on := r.IntN(len(r.m.Roles[role].On))
		f, x := r.code(r.m.Roles[role].On[on].Fn), r.turn(t, role, on)
		if e := ir.Check(r.m, f); e != api.OK || !ir.Holds(r.m, f) {
			t.Fatalf("seed %d: %d of %s", seed, e, shown(f))
		}
		for _, steps := range []int{60, r.IntN(60), r.IntN(8), -r.IntN(2)} {
			want, begun, left := secondRun(r.m, f, x, steps)
			wantRun(t, fmt.Sprint("seed ", seed, " with ", steps, shown(f)), r.m, f, x, steps, want, begun)
			ends[fmt.Sprint(want.Over, want.Trap, left)]++
			if begun > len(f.Code) {
				rounds++
			}
		}
		if t.Failed() {
			return
		}
	}
	for _, end := range []string{"0 0 true", "1 0 false", "1 0 true", "2 0 true", "3 0 true", "4 8 false", "4 8 true", "4 1 true", "4 9 true"} {
		if ends[end] < 200 {
			t.Errorf("%s came only %d times", end, ends[end])
		}
	}
	if rounds < 2000 {
		t.Error("more steps than the code has came only", rounds, "times")
	}
}

// P16.1: codes and turns by chance in which one thing is another one: they are used, or not, as by the second way.
func TestSpoilt(t *testing.T) {
	uses := map[bool]int{}
	for seed := range uint64(6000) {
		r := &maker{Rand: rand.New(rand.NewPCG(161, seed)), m: compiled(t, programs[1]), bodies: []int{2, 3, 4}}
		role := r.IntN(2)
		on := r.IntN(len(r.m.Roles[role].On))
		f, x := r.code(r.m.Roles[role].On[on].Fn), r.turn(t, role, on)
		near := func(n *int) { *n = one(r, *n-1, *n+1, -1, 0, 1, r.IntN(40), 1<<40, math.MinInt) }
		step, way := &f.Code[r.IntN(len(f.Code))], &f.Exits[r.IntN(len(f.Exits))][0]
		switch r.IntN(14) {
		case 0:
			near(&f.Fn)
		case 1:
			near(&f.Regs)
		case 2:
			near(one(r, &step.A, &step.B, &step.C, &step.Exit))
		case 3:
			near(one(r, &step.Lead, &step.Own))
		case 4:
			step.Op = api.FOp(r.IntN(24))
		case 5:
			near(&way.At)
		case 6:
			way.Vars = r.registers(f.Regs+1, r.IntN(5))
		case 7:
			way.Stack = r.registers(f.Regs, one(r, 1, 200, 201))
		case 8:
			f.Needs = append(f.Needs, api.Need{Fn: r.IntN(7) - 1, Sum: ir.Sum(r.m, r.IntN(5))})
		case 9:
			near(&x.Frames[0].At)
		case 10:
			near(&x.Role)
		case 11:
			x.Frames[0].Stack = x.State
		case 12:
			x = base.Step(r.m, x)
		case 13:
			x.Over = api.Over(r.IntN(6))
		}
		want, begun, _ := secondRun(r.m, f, x, 40)
		wantRun(t, fmt.Sprint("seed ", seed, shown(f), told(x)), r.m, f, x, 40, want, begun)
		uses[begun > 0]++
		if got, n := tier.Run(r.m, api.Fast{}, x, 40); n != 0 || told(got) != told(base.Run(r.m, x, 40)) {
			t.Error("without code:", n, told(got))
		}
	}
	if uses[true] < 1000 || uses[false] < 1000 {
		t.Error(uses)
	}
}
