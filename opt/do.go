package opt

import (
	"slices"

	"drover/api"
)

// do writes the steps of a plain instruction, or of a call that is put in, of the frame at work.
func (w *writer) do(f *frame, i api.Ins) {
	switch i.Op {
	case api.OConst:
		w.put(f, api.FConst, i.A, 0, -1)
	case api.OLoad:
		w.lead++
		w.push(f, f.vars[i.A])
	case api.OStore:
		w.store(f, i.A)
	case api.OSelf:
		w.self(f)
	case api.OPop:
		w.lead++
		f.take(1)
	case api.ONot:
		exit := w.exit()
		w.put(f, api.FNot, f.take(1)[0], 0, exit)
	case api.OTruth:
		w.step(api.Spec{Op: api.FGuard, A: f.top(), B: int(api.VBool), Own: 1, Exit: w.exit()})
	case api.OTuple:
		first := w.inRow(f, i.A)
		exit := w.exit()
		f.take(i.A)
		w.put(f, api.FTuple, first, i.A, exit)
	case api.OSend:
		first := w.inRow(f, i.B+1)
		w.step(api.Spec{Op: api.FSend, A: i.A, B: first, C: i.B, Own: 1, Exit: w.exit()})
		f.take(i.B + 1)
	case api.OCall:
		w.call(f, i.A)
	case api.OJump, api.OUnless, api.OAnd, api.OOr:
		w.jump(f, i)
	case api.OEnd:
		w.step(api.Spec{Op: api.FEnd, Own: 1, Exit: -1})
	default:
		w.ofTwo(f, i.Op)
	}
}

// ofTwo writes the step that makes a value of two.
func (w *writer) ofTwo(f *frame, op api.Op) {
	exit := -1
	if op != api.OEq && op != api.ONe {
		exit = w.exit()
	}
	two := f.take(2)
	w.put(f, stepOf(op), two[0], two[1], exit)
}

// stepOf is what a step does that makes of two values what such an instruction makes of them.
func stepOf(op api.Op) api.FOp {
	switch op {
	case api.OAdd:
		return api.FAdd
	case api.OSub:
		return api.FSub
	case api.OMul:
		return api.FMul
	case api.ODiv:
		return api.FDiv
	case api.OMod:
		return api.FMod
	case api.OEq:
		return api.FEq
	case api.ONe:
		return api.FNe
	case api.OLt:
		return api.FLt
	case api.OLe:
		return api.FLe
	case api.OGt:
		return api.FGt
	}
	return api.FGe
}

// store stores the top in a variable.
func (w *writer) store(f *frame, v int) {
	slot := f.slot(len(f.stack) - 1)
	from, to := f.take(1)[0], f.own+v
	if from == f.vars[v] || from < f.own {
		// It is there, or where nothing changes it before the function is over.
		f.vars[v] = from
		w.lead++
		return
	}
	// What was loaded of the variable is the value that it had.
	for place, register := range f.stack {
		if register == to {
			w.settle(f, place, place+1)
		}
	}
	if w.made == from && from == slot {
		w.makeIn(to)
		w.lead++
	} else {
		w.move(to, from, 1)
	}
	f.vars[v] = to
}

// self puts who it is on the stack.
func (w *writer) self(f *frame) {
	if w.isSentTo(f) {
		w.put(f, api.FSelf, 0, 0, -1)
		return
	}
	// A turn may be of an actor below 0, which is no right value: the interpreter goes on with it, but takes no frame back that has it. A tuple of it is not right either, and so leaves ahead of it.
	exit, to := w.exit(), f.next()
	w.room(to + 2)
	w.step(api.Spec{Op: api.FSelf, A: to, Exit: -1})
	w.step(api.Spec{Op: api.FTuple, A: to + 1, B: to, C: 1, Own: 1, Exit: exit})
	w.push(f, to)
}

// isSentTo tells whether what an OSelf puts is but whom something is sent to, and no step between may leave: so no frame is made that has it.
func (w *writer) isSentTo(f *frame) bool {
	behind := w.m.Fns[f.fn].Code[f.at+1:]
	n := slices.IndexFunc(behind, func(i api.Ins) bool { return i.Op != api.OConst && i.Op != api.OLoad })
	return behind[n].Op == api.OSend && behind[n].B == n
}

// inRow sees to it that the registers of the topmost values are one behind the other, and tells the first one.
func (w *writer) inRow(f *frame, many int) int {
	if many == 0 {
		return f.next()
	}
	lowest := len(f.stack) - many
	for n, register := range f.stack[lowest:] {
		if register != f.stack[lowest]+n {
			w.settle(f, lowest, len(f.stack))
			break
		}
	}
	return f.stack[lowest]
}

// jump writes the steps of an instruction of a body that may lead elsewhere.
func (w *writer) jump(f *frame, i api.Ins) {
	stay := len(f.stack)
	if i.Op == api.OUnless {
		stay--
	}
	w.settle(f, 0, stay)
	if i.Op == api.OJump {
		w.step(api.Spec{Op: api.FJump, A: i.A, Own: 1, Exit: -1})
		return
	}
	exit, truth := w.exit(), f.top()
	if i.Op == api.OOr {
		// FIf leads elsewhere at what is false.
		not := f.next()
		w.room(not + 1)
		w.step(api.Spec{Op: api.FNot, A: not, B: truth, Exit: exit})
		truth = not
	}
	w.step(api.Spec{Op: api.FIf, A: i.A, B: truth, Own: 1, Exit: exit})
	f.take(1)
}

// call writes the steps of a function that is put in: straight to its return.
func (w *writer) call(f *frame, fn int) {
	w.lead++
	f.at++
	own := f.next()
	called := w.m.Fns[fn]
	vars := f.take(called.Params)
	vars = append(vars, slices.Repeat([]int{w.zero}, called.Vars-called.Params)...)
	g := &frame{fn: fn, vars: vars, own: own, slots: own + called.Vars}
	w.frames = append(w.frames, g)
	for at, i := range called.Code {
		g.at = at
		if i.Op == api.OReturn {
			break
		}
		w.do(g, i)
	}
	w.frames = w.frames[:len(w.frames)-1]
	w.handBack(f, g.top())
}

// handBack puts what a call came to, which is in that register, on the stack of the frame below it.
func (w *writer) handBack(f *frame, from int) {
	to := f.next()
	switch {
	case from == to || from < f.slots:
		w.lead++
		w.push(f, from)
	case from == w.made:
		// Nobody else speaks of the register: the frame that did is over.
		w.makeIn(to)
		w.lead++
		w.push(f, to)
	default:
		w.move(to, from, 1)
		w.push(f, to)
	}
}
