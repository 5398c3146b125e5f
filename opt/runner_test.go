package opt_test

import (
	"math/big"
	"slices"

	"drover/api"
	"drover/base"
	"drover/ir"
	"drover/value"
)

// runner does a code's steps as layer 16's chapter has them.
type runner struct {
	m     api.Module
	f     api.Fast
	turn  api.Turn
	regs  []api.Value
	at    int
	left  int
	begun int
}

// done is what a turn came to by a code's steps, how many of them were begun, and whether one left.
type done struct {
	turn  api.Turn
	begun int
	left  bool
}

// run is what a turn that fits f comes to by f's steps.
func run(m api.Module, f api.Fast, t api.Turn, steps int) done {
	if ir.Check(m, f) != api.OK || !ir.Holds(m, f) || !base.Right(m, t) || len(t.Frames) != 1 || t.Frames[0].Fn != f.Fn {
		panic("a code that may not be, or a turn that does not fit it")
	}
	r := &runner{m: m, f: f, turn: t, left: max(steps, 0)}
	r.regs = append(r.regs, t.Frames[0].Vars...)
	for len(r.regs) < f.Regs {
		r.regs = append(r.regs, number(0))
	}
	for r.turn.Over == api.Going {
		s := f.Code[r.at]
		r.begun++
		if s.Lead+s.Own > r.left {
			r.turn.Used += r.left
			r.turn.Over, r.turn.Trap, r.turn.Frames, r.turn.Effects = api.Trapped, api.TrapFuel, nil, nil
			break
		}
		r.at++
		if !r.step(s) {
			r.turn.Used += s.Lead
			r.turn.Frames = r.frames(f.Exits[s.Exit])
			return done{base.Run(m, r.turn, r.left-s.Lead), r.begun, true}
		}
		r.turn.Used += s.Lead + s.Own
		r.left -= s.Lead + s.Own
	}
	return done{r.turn, r.begun, false}
}

// frames are those of a way back.
func (r *runner) frames(way []api.Back) []api.Frame {
	var all []api.Frame
	for _, b := range way {
		f := api.Frame{Fn: b.Fn, At: b.At}
		for _, n := range b.Vars {
			f.Vars = append(f.Vars, r.regs[n])
		}
		for _, n := range b.Stack {
			f.Stack = append(f.Stack, r.regs[n])
		}
		all = append(all, f)
	}
	return all
}

// step does a step, and tells whether it did not leave.
func (r *runner) step(s api.Spec) bool {
	reg := r.regs
	switch s.Op {
	case api.FMove:
		reg[s.A] = reg[s.B]
	case api.FConst:
		reg[s.A] = r.m.Consts[s.B]
	case api.FSelf:
		reg[s.A] = actor(r.turn.Self)
	case api.FGuard:
		return int(reg[s.A].Kind) == s.B
	case api.FEq, api.FNe:
		reg[s.A] = truth(value.Same(reg[s.B], reg[s.C]) == (s.Op == api.FEq))
	case api.FNot:
		if reg[s.B].Kind != api.VBool {
			return false
		}
		reg[s.A] = truth(reg[s.B].N == 0)
	case api.FJump:
		r.at = s.A
	case api.FIf:
		if reg[s.B].Kind != api.VBool {
			return false
		}
		if reg[s.B].N == 0 {
			r.at = s.A
		}
	case api.FSend:
		if reg[s.B].Kind != api.VActor {
			return false
		}
		r.turn.Effects = append(slices.Clone(r.turn.Effects), api.Effect{To: reg[s.B].N, Role: -1, Tag: r.m.Tags[s.A], Args: slices.Clone(reg[s.B+1 : s.B+1+s.C])})
	case api.FTuple:
		v := tuple(slices.Clone(reg[s.B : s.B+s.C])...)
		if !value.Right(v) {
			return false
		}
		reg[s.A] = v
	case api.FEnd:
		r.turn.Over, r.turn.Frames, r.turn.State = api.Ended, nil, slices.Clone(reg[:r.m.Roles[r.turn.Role].Params])
	case api.FOut:
		return false
	default:
		return r.ofTwo(s)
	}
	return true
}

// ofTwo does a step that makes something of two Ints, by numbers without end.
func (r *runner) ofTwo(s api.Spec) bool {
	a, b := r.regs[s.B], r.regs[s.C]
	if a.Kind != api.VInt || b.Kind != api.VInt {
		return false
	}
	x, y, n := big.NewInt(a.N), big.NewInt(b.N), new(big.Int)
	switch s.Op {
	case api.FAdd:
		n.Add(x, y)
	case api.FSub:
		n.Sub(x, y)
	case api.FMul:
		n.Mul(x, y)
	case api.FDiv, api.FMod:
		if b.N == 0 {
			return false
		}
		if s.Op == api.FDiv {
			n.Quo(x, y)
		} else {
			n.Rem(x, y)
		}
	case api.FLt:
		r.regs[s.A] = truth(a.N < b.N)
		return true
	case api.FLe:
		r.regs[s.A] = truth(a.N <= b.N)
		return true
	case api.FGt:
		r.regs[s.A] = truth(a.N > b.N)
		return true
	case api.FGe:
		r.regs[s.A] = truth(a.N >= b.N)
		return true
	}
	if !n.IsInt64() {
		return false
	}
	r.regs[s.A] = number(n.Int64())
	return true
}
