package tier

import (
	"math"
	"slices"

	"drover/api"
	"drover/value"
)

// does does a step, and tells whether it did: else it leaves, with nothing changed.
func (w *worker) does(s api.Spec) bool {
	switch s.Op {
	case api.FGuard:
		return int(w.regs[s.A].Kind) == s.B
	case api.FJump:
		w.at = s.A
		return true
	case api.FIf:
		return w.branch(s.A, w.regs[s.B])
	case api.FSend:
		return w.send(s.A, w.regs[s.B], w.regs[s.B+1:s.B+1+s.C])
	case api.FEnd:
		w.end()
		return true
	case api.FOut:
		return false
	}
	v, ok := w.made(s)
	if ok {
		w.regs[s.A] = v
	}
	return ok
}

// branch goes to that step, if v is false.
func (w *worker) branch(to int, v api.Value) bool {
	if v.Kind != api.VBool {
		return false
	}
	if v.N == 0 {
		w.at = to
	}
	return true
}

// send has a message of that tag and args be sent to an actor.
func (w *worker) send(tag int, to api.Value, args []api.Value) bool {
	if to.Kind != api.VActor {
		return false
	}
	w.turn.Effects = append(w.turn.Effects, api.Effect{To: to.N, Role: -1, Tag: w.Tags[tag], Args: slices.Clone(args)})
	return true
}

// end ends the turn: the first registers are the state.
func (w *worker) end() {
	w.turn.Over, w.turn.Trap = api.Ended, 0
	w.turn.State = w.regs[:w.Roles[w.turn.Role].Params]
}

// made is the value that a step makes, or false, if it leaves.
func (w *worker) made(s api.Spec) (api.Value, bool) {
	switch s.Op {
	case api.FMove:
		return w.regs[s.B], true
	case api.FConst:
		return w.Consts[s.B], true
	case api.FSelf:
		return api.Value{Kind: api.VActor, N: w.turn.Self}, true
	case api.FNot:
		v := w.regs[s.B]
		return truth(v.N == 0), v.Kind == api.VBool
	case api.FEq:
		return truth(value.Same(w.regs[s.B], w.regs[s.C])), true
	case api.FNe:
		return truth(!value.Same(w.regs[s.B], w.regs[s.C])), true
	case api.FTuple:
		v := api.Value{Kind: api.VTuple, L: slices.Clone(w.regs[s.B : s.B+s.C])}
		return v, value.Right(v)
	}
	return counted(s.Op, w.regs[s.B], w.regs[s.C])
}

// truth is that as a value.
func truth(is bool) api.Value {
	if is {
		return api.Value{Kind: api.VBool, N: 1}
	}
	return api.Value{Kind: api.VBool}
}

// counted is what a step makes of two Ints; false of all else, and where base traps.
func counted(op api.FOp, a, b api.Value) (api.Value, bool) {
	if a.Kind != api.VInt || b.Kind != api.VInt {
		return api.Value{}, false
	}
	switch op {
	case api.FLt:
		return truth(a.N < b.N), true
	case api.FLe:
		return truth(a.N <= b.N), true
	case api.FGt:
		return truth(a.N > b.N), true
	case api.FGe:
		return truth(a.N >= b.N), true
	}
	n, ok := number(op, a.N, b.N)
	return api.Value{Kind: api.VInt, N: n}, ok
}

// number is what a step makes of two numbers; false beyond 64 bits, and of a division by 0.
func number(op api.FOp, a, b int64) (int64, bool) {
	// The product and the quotient of these two wrap round to what looks right.
	leastByMinusOne := a == math.MinInt64 && b == -1
	switch op {
	case api.FAdd:
		return a + b, (a+b > a) == (b > 0)
	case api.FSub:
		return a - b, (a-b < a) == (b > 0)
	case api.FMul:
		return a * b, b == 0 || a*b/b == a && !leastByMinusOne
	}
	if b == 0 {
		return 0, false
	}
	if op == api.FMod {
		return a % b, true
	}
	return a / b, !leastByMinusOne
}
