package opt

import (
	"slices"

	"drover/api"
)

// What is put in at most. A way back has no more frames, and code no more needs; with so many instructions beside the body's it has by far fewer steps and ways back than it may have.
const (
	mostFrames = 3
	mostNeeds  = 100
	mostPut    = 1000
)

// plan is what is to be written of a body.
type plan struct {
	m       api.Module
	fn      int
	seen    []api.Seen
	depths  []int
	reached []bool // which instructions steps are written of
	joins   []bool // which of them others jump to
	outs    []bool // which of them are left to the interpreter, with all that is behind them

	sizes map[[2]int]int // by a function, and how many are under way with it, how many instructions it comes to; 0, if it is not put in
	added int            // how many instructions are put in
	rests []int          // which functions are put in
}

// newPlan is the plan of a body that is compiled.
func newPlan(m api.Module, fn int, p api.Profile, depths []int) *plan {
	many := len(depths)
	w := &plan{m: m, fn: fn, seen: p.Fns, depths: depths, sizes: map[[2]int]int{}}
	w.reached, w.joins, w.outs = make([]bool, many), make([]bool, many), make([]bool, many)
	var work []int
	reach := func(at, _ int) {
		if !w.reached[at] {
			w.reached[at] = true
			work = append(work, at)
		}
	}
	reach(0, 0)
	for len(work) > 0 {
		at := work[len(work)-1]
		work = work[:len(work)-1]
		i := m.Fns[fn].Code[at]
		if !w.isPlain(fn, at) && !(i.Op == api.OCall && w.puts(i.A)) {
			w.outs[at] = true
			continue
		}
		if isJump(i.Op) {
			w.joins[i.A] = true
		}
		behind(m, i, at, depths[at], reach)
	}
	return w
}

// isJump tells whether such an instruction may lead elsewhere than to the next one.
func isJump(op api.Op) bool {
	return op == api.OJump || op == api.OUnless || op == api.OAnd || op == api.OOr
}

// isPlain tells whether there are steps that do what that instruction of a function does.
func (w *plan) isPlain(fn, at int) bool {
	switch w.m.Fns[fn].Code[at].Op {
	case api.OConst, api.OLoad, api.OStore, api.OSelf, api.OPop, api.OEq, api.ONe, api.ONot, api.OTruth,
		api.OTuple, api.OSend, api.OUnless, api.OAnd, api.OOr, api.OJump, api.OEnd:
		return true
	case api.OAdd, api.OSub, api.OMul, api.ODiv, api.OMod, api.OLt, api.OLe, api.OGt, api.OGe:
		return w.sawInts(fn, at)
	}
	return false
}

// sawInts tells whether Ints alone were seen ahead of that instruction of a function, on top and below.
func (w *plan) sawInts(fn, at int) bool {
	if fn >= len(w.seen) || at >= len(w.seen[fn].Tops) {
		return false
	}
	return w.seen[fn].Tops[at] == [2]uint8{1 << api.VInt, 1 << api.VInt}
}

// puts tells whether one more call of that function is put in, and if so takes it into account.
func (w *plan) puts(fn int) bool {
	size := w.size(fn, 2)
	if size == 0 || w.added+size > mostPut {
		return false
	}
	rests := w.restingOn(fn, slices.Clone(w.rests))
	if len(rests) > mostNeeds {
		return false
	}
	w.added += size
	w.rests = rests
	return true
}

// size is how many instructions a call comes to, with all calls within it; 0, if it is not put in: only what never leaves but by a value that was not seen, and goes straight to its return, is.
func (w *plan) size(fn, frames int) int {
	key := [2]int{fn, frames}
	n, ok := w.sizes[key]
	if !ok {
		if frames <= mostFrames && len(w.m.Fns[fn].Code) <= api.MaxInline {
			n = w.counted(fn, frames)
		}
		w.sizes[key] = n
	}
	return n
}

// counted is size of a function that is not too long.
func (w *plan) counted(fn, frames int) int {
	total, depth := 0, 0
	for at, i := range w.m.Fns[fn].Code {
		takes, puts := takesAndPuts(w.m, i)
		if takes > depth {
			return 0
		}
		depth += puts - takes
		total++
		switch {
		case i.Op == api.OReturn:
			return total
		case i.Op == api.OCall:
			n := w.size(i.A, frames+1)
			if n == 0 {
				return 0
			}
			total += n
		case isJump(i.Op) || !w.isPlain(fn, at):
			return 0
		}
	}
	return 0
}

// restingOn is all, with a function that is put in and those that are put in with it, each once.
func (w *plan) restingOn(fn int, all []int) []int {
	if !slices.Contains(all, fn) {
		all = append(all, fn)
	}
	for _, i := range w.m.Fns[fn].Code {
		if i.Op == api.OReturn {
			break
		}
		if i.Op == api.OCall {
			all = w.restingOn(i.A, all)
		}
	}
	return all
}
