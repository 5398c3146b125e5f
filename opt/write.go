package opt

import (
	"drover/api"
	"drover/ir"
)

// writer writes a body's steps. Instructions that only move values are left out as far as it is known where these are.
type writer struct {
	*plan
	out    api.Fast
	frames []*frame
	zero   int   // a register that keeps the Int 0 that it has at the begin
	lead   int   // instructions that are done, but not yet counted by a step
	made   int   // the register that the last step made, if nothing leads between that and here; else -1
	starts []int // the first step of each instruction that is reached
}

// written is the code of a plan.
func written(p *plan) api.Fast {
	vars := p.m.Fns[p.fn].Vars
	body := &frame{fn: p.fn, slots: vars}
	for v := range vars {
		body.vars = append(body.vars, v)
	}
	w := &writer{plan: p, frames: []*frame{body}, zero: vars, made: -1, starts: make([]int, len(p.depths))}
	w.out.Fn = p.fn
	if len(p.rests) > 0 { // only what is put in asks for it
		body.slots++
	}
	w.room(body.slots)
	w.body(body)
	w.lay()
	for _, fn := range p.rests {
		w.out.Needs = append(w.out.Needs, api.Need{Fn: fn, Sum: ir.Sum(p.m, fn)})
	}
	return w.out
}

// body writes all that is reached, in the order of the instructions: so nothing must be jumped over to come to the next one.
func (w *writer) body(f *frame) {
	falls := true
	for at, i := range w.m.Fns[w.fn].Code {
		if !w.reached[at] {
			continue
		}
		if w.joins[at] {
			w.join(f, at, falls)
		}
		f.at, w.starts[at] = at, len(w.out.Code)
		falls = !w.outs[at] && i.Op != api.OJump && i.Op != api.OEnd
		if w.outs[at] {
			w.step(api.Spec{Op: api.FOut, Exit: w.exit()})
		} else {
			w.do(f, i)
		}
	}
}

// join brings about what all that lead to an instruction leave to it: each value is in its slot, and all is counted.
func (w *writer) join(f *frame, at int, falls bool) {
	if falls {
		w.settle(f, 0, len(f.stack))
		w.count(at)
	}
	f.stack = f.stack[:0]
	for place := range w.depths[at] {
		f.stack = append(f.stack, f.slot(place))
	}
	w.made = -1
}

// count counts what is done ahead of the instruction at that place.
func (w *writer) count(at int) {
	if w.lead == 0 {
		return
	}
	if last := len(w.out.Code) - 1; w.made >= 0 && w.out.Code[last].Exit < 0 {
		// That step never leaves: so it may as well count what comes behind it.
		w.out.Code[last].Lead += w.lead
		w.lead = 0
		return
	}
	w.step(api.Spec{Op: api.FJump, A: at, Exit: -1})
}

// lay leads jumps, which were written with the instructions that they lead to, to the steps of these.
func (w *writer) lay() {
	for k, s := range w.out.Code {
		if s.Op == api.FJump || s.Op == api.FIf {
			w.out.Code[k].A = w.starts[s.A]
		}
	}
}

// room sees to it that there are so many registers.
func (w *writer) room(many int) {
	w.out.Regs = max(w.out.Regs, many)
}

// step writes a step, which counts what was done ahead of it.
func (w *writer) step(s api.Spec) {
	s.Lead = w.lead
	w.lead, w.made = 0, -1
	w.out.Code = append(w.out.Code, s)
}

// exit makes a way back to the frames as they are.
func (w *writer) exit() int {
	var way []api.Back
	for _, f := range w.frames {
		way = append(way, f.back())
	}
	w.out.Exits = append(w.out.Exits, way)
	return len(w.out.Exits) - 1
}

// push puts a value that is in a register on the stack.
func (w *writer) push(f *frame, register int) {
	w.room(f.next() + 1)
	f.stack = append(f.stack, register)
}

// put writes the step that makes a value, and puts this on the stack.
func (w *writer) put(f *frame, op api.FOp, b, c, exit int) {
	to := f.next()
	w.step(api.Spec{Op: op, A: to, B: b, C: c, Own: 1, Exit: exit})
	w.push(f, to)
	w.made = to
}

// move writes the step that copies a register.
func (w *writer) move(to, from, own int) {
	w.step(api.Spec{Op: api.FMove, A: to, B: from, Own: own, Exit: -1})
	w.made = to
}

// makeIn has the last step make its value elsewhere.
func (w *writer) makeIn(register int) {
	w.out.Code[len(w.out.Code)-1].A = register
	w.made = register
}

// settle brings the values of the stack's places from first on, ahead of end, to their slots.
func (w *writer) settle(f *frame, first, end int) {
	for place := first; place < end; place++ {
		if to := f.slot(place); f.stack[place] != to {
			w.move(to, f.stack[place], 0)
			f.stack[place] = to
		}
	}
}
