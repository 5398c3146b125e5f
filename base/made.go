package base

import (
	"math"
	"slices"

	"drover/api"
	"drover/value"
)

// outcomes is a set of what value.Compare may tell.
type outcomes uint8

const (
	below outcomes = 1 << iota
	same
	above
)

// comparisons tells at which outcomes each comparison holds.
func comparisons() map[api.Op]outcomes {
	return map[api.Op]outcomes{
		api.OEq: same, api.ONe: below | above,
		api.OLt: below, api.OLe: below | same, api.OGt: above, api.OGe: above | same,
	}
}

// has is 1, if a set has what value.Compare tells, else 0.
func (o outcomes) has(compared int) int64 {
	return int64(o >> (compared + 1) & 1)
}

// made is the value that an instruction of f makes of those that it took, or the trap that it ends with.
func (w *worker) made(f *api.Frame, i api.Ins, took []api.Value) (api.Value, int) {
	switch i.Op {
	case api.OConst:
		return w.Consts[i.A], 0
	case api.OLoad:
		return f.Vars[i.A], 0
	case api.OSelf:
		return actor(w.turn.Self), 0
	case api.OTuple:
		return ifRight(api.Value{Kind: api.VTuple, L: slices.Clone(took)})
	case api.OCat:
		return joined(took)
	case api.OAt:
		return part(took[0], took[1])
	case api.OLen:
		return length(took[0])
	case api.ONot, api.OTruth:
		return truth(i.Op, took)
	case api.OEq, api.ONe, api.OLt, api.OLe, api.OGt, api.OGe:
		return w.compared(i.Op, took)
	}
	return counted(i.Op, took)
}

// integer is that number as a value.
func integer(n int64) api.Value {
	return api.Value{Kind: api.VInt, N: n}
}

// actor is the actor of that number as a value.
func actor(n int64) api.Value {
	return api.Value{Kind: api.VActor, N: n}
}

// are tells whether all of these are of that kind.
func are(list []api.Value, kind api.Kind) bool {
	return !slices.ContainsFunc(list, func(v api.Value) bool { return v.Kind != kind })
}

// ifRight is v, unless it is too much of a value.
func ifRight(v api.Value) (api.Value, int) {
	if !value.Right(v) {
		return api.Value{}, api.TrapLong
	}
	return v, 0
}

// joined is one value behind the other, as one.
func joined(two []api.Value) (api.Value, int) {
	a, b := two[0], two[1]
	if are(two, api.VBytes) {
		return ifRight(api.Value{Kind: api.VBytes, S: a.S + b.S})
	}
	if are(two, api.VTuple) {
		return ifRight(api.Value{Kind: api.VTuple, L: slices.Concat(a.L, b.L)})
	}
	return api.Value{}, api.TrapType
}

// part is what v has at that place.
func part(v, at api.Value) (api.Value, int) {
	many, trap := length(v)
	switch {
	case trap != 0:
		return api.Value{}, trap
	case at.Kind != api.VInt:
		return api.Value{}, api.TrapType
	case at.N < 0 || at.N >= many.N:
		return api.Value{}, api.TrapRange
	case v.Kind == api.VTuple:
		return v.L[at.N], 0
	}
	return integer(int64(v.S[at.N])), 0
}

// length is how many bytes, or parts, v has.
func length(v api.Value) (api.Value, int) {
	switch v.Kind {
	case api.VBytes:
		return integer(int64(len(v.S))), 0
	case api.VTuple:
		return integer(int64(len(v.L))), 0
	}
	return api.Value{}, api.TrapType
}

// truth is what an instruction makes of one truth.
func truth(op api.Op, one []api.Value) (api.Value, int) {
	if !are(one, api.VBool) {
		return api.Value{}, api.TrapType
	}
	v := one[0]
	if op == api.ONot {
		v.N = 1 - v.N
	}
	return v, 0
}

// compared is whether a comparison of two values holds. Any two may be the same, or not; which one is below is asked of numbers and of bytes alone.
func (w *worker) compared(op api.Op, two []api.Value) (api.Value, int) {
	ofAny := op == api.OEq || op == api.ONe
	if !ofAny && !are(two, api.VInt) && !are(two, api.VBytes) {
		return api.Value{}, api.TrapType
	}
	return api.Value{Kind: api.VBool, N: w.holds[op].has(value.Compare(two[0], two[1]))}, 0
}

// counted is what an instruction makes of numbers.
func counted(op api.Op, list []api.Value) (api.Value, int) {
	if !are(list, api.VInt) {
		return api.Value{}, api.TrapType
	}
	if op == api.ONeg {
		list = []api.Value{integer(0), list[0]}
	}
	n, trap := number(op, list[0].N, list[1].N)
	if trap != 0 {
		return api.Value{}, trap
	}
	return integer(n), 0
}

// number is what an instruction makes of two numbers; ONeg takes b from 0.
func number(op api.Op, a, b int64) (int64, int) {
	switch op {
	case api.OAdd:
		n := a + b
		return n, overIf((n > a) != (b > 0))
	case api.OSub, api.ONeg:
		n := a - b
		return n, overIf((n < a) != (b > 0))
	case api.OMul:
		n := a * b
		return n, overIf(b != 0 && n/b != a || isTooGreat(a, b))
	}
	if b == 0 {
		return 0, api.TrapZero
	}
	if op == api.OMod {
		return a % b, 0
	}
	return a / b, overIf(isTooGreat(a, b))
}

// isTooGreat tells of the one quotient that is beyond 64 bits.
func isTooGreat(a, b int64) bool {
	return a == math.MinInt64 && b == -1
}

// overIf is the trap of a number that is too great, if that holds.
func overIf(tooGreat bool) int {
	if tooGreat {
		return api.TrapOver
	}
	return 0
}
