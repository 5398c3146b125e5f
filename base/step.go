package base

import (
	"slices"

	"drover/api"
)

// worker does the steps of a turn. Values share what their tuples have while it is at work, as none of them is ever changed.
type worker struct {
	api.Module
	turn  api.Turn
	holds map[api.Op]outcomes
}

// newWorker is what does t's steps, if t goes on and is right.
func newWorker(m api.Module, t api.Turn) (*worker, bool) {
	if t.Over != api.Going || !Right(m, t) {
		return nil, false
	}
	return &worker{Module: m, turn: copied(t), holds: comparisons()}, true
}

// atWork is the frame at work.
func (w *worker) atWork() *api.Frame {
	return &w.turn.Frames[len(w.turn.Frames)-1]
}

// step does the next instruction.
func (w *worker) step() {
	f := w.atWork()
	i := w.Fns[f.Fn].Code[f.At]
	f.At++
	w.turn.Used++
	if trap := w.do(f, i); trap != 0 {
		w.trap(trap)
	}
}

// trap ends the turn with nothing done.
func (w *worker) trap(trap int) {
	w.turn.Next = firstNext(w.turn)
	w.turn.Effects = nil
	w.end(api.Trapped, trap)
}

// end ends the turn.
func (w *worker) end(over api.Over, trap int) {
	w.turn.Over, w.turn.Trap, w.turn.Frames = over, trap, nil
}

// firstNext is who was to be spawned next when t began: whoever was spawned first, if anybody was. A turn does not keep that elsewhere, and may have begun many calls ago.
func firstNext(t api.Turn) int64 {
	for _, e := range t.Effects {
		if e.Role >= 0 {
			return e.To
		}
	}
	return t.Next
}

// takes is how many values an instruction takes.
func (w *worker) takes(i api.Ins) int {
	switch i.Op {
	case api.OConst, api.OLoad, api.OSelf, api.OJump, api.OEnd, api.OStop:
		return 0
	case api.OStore, api.OPop, api.ONeg, api.ONot, api.OTruth, api.OLen, api.OUnless, api.OAnd, api.OOr, api.OReturn:
		return 1
	case api.OTuple:
		return i.A
	case api.OCall:
		return w.Fns[i.A].Params
	case api.OSpawn, api.OBecome:
		return w.Roles[i.A].Params
	case api.OSend:
		return i.B + 1
	}
	return 2
}

// do does an instruction in f, which is at work, and answers the trap that it ends with, or 0.
func (w *worker) do(f *api.Frame, i api.Ins) int {
	took, ok := take(f, w.takes(i))
	if !ok {
		return api.TrapStack
	}
	switch i.Op {
	case api.OPop:
		return 0
	case api.OStore:
		f.Vars[i.A] = took[0]
		return 0
	case api.OJump:
		f.At = i.A
		return 0
	case api.OUnless, api.OAnd, api.OOr:
		return branch(f, i, took[0])
	case api.OCall:
		return w.call(i.A, took)
	case api.OReturn:
		return w.goBack(took[0])
	case api.OSpawn:
		return w.spawn(f, i.A, took)
	case api.OSend:
		return w.send(i.A, took[0], took[1:])
	case api.OEnd, api.OStop, api.OBecome:
		w.leave(f, i, took)
		return 0
	}
	v, trap := w.made(f, i, took)
	if trap != 0 {
		return trap
	}
	return put(f, v)
}

// take takes so many values from f's stack, which has them no more. They stand in its memory till something is put there.
func take(f *api.Frame, many int) ([]api.Value, bool) {
	left := len(f.Stack) - many
	if left < 0 {
		return nil, false
	}
	took := f.Stack[left:]
	f.Stack = f.Stack[:left]
	return took, true
}

// put puts v on f's stack.
func put(f *api.Frame, v api.Value) int {
	if len(f.Stack) == api.MaxStack {
		return api.TrapStack
	}
	f.Stack = append(f.Stack, v)
	return 0
}

// branch goes to where the instruction leads, or on, as v tells.
func branch(f *api.Frame, i api.Ins, v api.Value) int {
	if v.Kind != api.VBool {
		return api.TrapType
	}
	if isTrue := v.N == 1; isTrue != (i.Op == api.OOr) {
		return 0
	}
	f.At = i.A
	if i.Op == api.OUnless {
		return 0
	}
	return put(f, v)
}

// call begins a function of these values.
func (w *worker) call(fn int, args []api.Value) int {
	if len(w.turn.Frames) == api.MaxCalls {
		return api.TrapDeep
	}
	w.turn.Frames = append(w.turn.Frames, newFrame(w.Module, fn, slices.Clone(args)))
	return 0
}

// goBack ends the frame at work, and puts v on the one below.
func (w *worker) goBack(v api.Value) int {
	last := len(w.turn.Frames) - 1
	if last == 0 {
		return api.TrapStack
	}
	w.turn.Frames = w.turn.Frames[:last]
	return put(w.atWork(), v)
}

// spawn has an actor of that role and state be spawned, who is put on f's stack.
func (w *worker) spawn(f *api.Frame, role int, state []api.Value) int {
	w.turn.Effects = append(w.turn.Effects, api.Effect{To: w.turn.Next, Role: role, Args: slices.Clone(state)})
	w.turn.Next++
	return put(f, actor(w.turn.Next-1))
}

// send has a message of that tag and args be sent.
func (w *worker) send(tag int, to api.Value, args []api.Value) int {
	if to.Kind != api.VActor {
		return api.TrapType
	}
	w.turn.Effects = append(w.turn.Effects, api.Effect{To: to.N, Role: -1, Tag: w.Tags[tag], Args: slices.Clone(args)})
	return 0
}

// leave ends the turn by an instruction of f that does so, which took these values.
func (w *worker) leave(f *api.Frame, i api.Ins, took []api.Value) {
	switch i.Op {
	case api.OEnd:
		w.turn.State = f.Vars[:w.Roles[w.turn.Role].Params]
		w.end(api.Ended, 0)
	case api.OStop:
		w.end(api.Stopped, 0)
	case api.OBecome:
		w.turn.Role, w.turn.State = i.A, took
		w.end(api.Became, 0)
	}
}
