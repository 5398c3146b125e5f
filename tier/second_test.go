package tier_test

import (
	"slices"

	"drover/api"
	"drover/base"
	"drover/ir"
	"drover/tier"
	"drover/value"
)

// runOf is what Run makes of a turn, with steps enough.
func runOf(m api.Module, f api.Fast, x api.Turn) api.Turn {
	got, _ := tier.Run(m, f, x, 300)
	return got
}

// second tells another way what Run must: numbers are asked of the interpreter, one step at a time.
type second struct {
	m    api.Module
	f    api.Fast
	turn api.Turn
	reg  []api.Value
	next int
}

// secondRun is what Run tells, and whether a step left.
func secondRun(m api.Module, f api.Fast, x api.Turn, steps int) (got api.Turn, begun int, left bool) {
	fits := ir.Check(m, f) == api.OK && ir.Holds(m, f) && x.Over == api.Going && base.Right(m, x) &&
		len(x.Frames) == 1 && x.Frames[0].Fn == f.Fn && x.Frames[0].At == 0 && len(x.Frames[0].Stack) == 0 && len(x.Effects) == 0
	if !fits {
		return base.Run(m, x, steps), 0, false
	}
	s := &second{m: m, f: f, turn: x, reg: slices.Clone(x.Frames[0].Vars)}
	for len(s.reg) < f.Regs {
		s.reg = append(s.reg, number(0))
	}
	used := 0
	for steps = max(steps, 0); ; {
		step := f.Code[s.next]
		begun++
		if used+step.Lead+step.Own > steps {
			return trapped(x, steps, trapFuel), begun, false
		}
		s.next++
		if !s.step(step) {
			s.turn.Frames, s.turn.Used = nil, x.Used+used+step.Lead
			for _, b := range f.Exits[step.Exit] {
				s.turn.Frames = append(s.turn.Frames, api.Frame{Fn: b.Fn, At: b.At, Vars: s.of(b.Vars), Stack: s.of(b.Stack)})
			}
			return base.Run(m, s.turn, steps-used-step.Lead), begun, true
		}
		used += step.Lead + step.Own
		if step.Op == api.FEnd {
			return ended(x, used, s.turn.Effects, s.reg[:m.Roles[x.Role].Params]...), begun, false
		}
	}
}

// of is what registers have.
func (s *second) of(regs []int) []api.Value {
	var all []api.Value
	for _, r := range regs {
		all = append(all, s.reg[r])
	}
	return all
}

// between is what the registers from one on have, so many of them.
func (s *second) between(first, many int) []api.Value {
	return slices.Clone(s.reg[first : first+many])
}

// step does a step, and tells whether it did not leave.
func (s *second) step(p api.Spec) bool {
	kind := func(r int) api.Kind { return s.reg[r].Kind }
	into := func(v api.Value) bool { s.reg[p.A] = v; return true }
	switch p.Op {
	case api.FMove:
		return into(s.reg[p.B])
	case api.FConst:
		return into(s.m.Consts[p.B])
	case api.FSelf:
		return into(actor(s.turn.Self))
	case api.FGuard:
		return kind(p.A) == api.Kind(p.B)
	case api.FNot:
		return kind(p.B) == api.VBool && into(truth(value.Same(s.reg[p.B], truth(false))))
	case api.FEq:
		return into(truth(value.Compare(s.reg[p.B], s.reg[p.C]) == 0))
	case api.FNe:
		return into(truth(value.Compare(s.reg[p.B], s.reg[p.C]) != 0))
	case api.FJump:
		s.next = p.A
		return true
	case api.FIf:
		if kind(p.B) == api.VBool && value.Same(s.reg[p.B], truth(false)) {
			s.next = p.A
		}
		return kind(p.B) == api.VBool
	case api.FSend:
		if kind(p.B) == api.VActor {
			s.turn.Effects = append(slices.Clone(s.turn.Effects), api.Effect{To: s.reg[p.B].N, Role: -1, Tag: s.m.Tags[p.A], Args: s.between(p.B+1, p.C)})
		}
		return kind(p.B) == api.VActor
	case api.FTuple:
		v := tuple(s.between(p.B, p.C)...)
		return value.Right(v) && into(v)
	case api.FEnd:
		return true
	case api.FOut:
		return false
	}
	ops := map[api.FOp]api.Op{api.FAdd: api.OAdd, api.FSub: api.OSub, api.FMul: api.OMul, api.FDiv: api.ODiv, api.FMod: api.OMod, api.FLt: api.OLt, api.FLe: api.OLe, api.FGt: api.OGt, api.FGe: api.OGe}
	if kind(p.B) != api.VInt || kind(p.C) != api.VInt {
		return false
	}
	v, does := byBase(api.Ins{Op: ops[p.Op]}, s.reg[p.B], s.reg[p.C])
	return does && into(v)
}
