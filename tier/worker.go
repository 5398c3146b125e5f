package tier

import (
	"drover/api"
	"drover/base"
)

// worker does the steps of speculative code. Values share what their tuples have while it is at work, as none of them is ever changed; base.Run answers them in memory of their own.
type worker struct {
	api.Module
	fast  api.Fast
	begin api.Turn // as it was handed in
	turn  api.Turn // it has no frames as long as the code is at work: what they would have is in the registers
	regs  []api.Value
	at    int // which step is next
	left  int // how many steps of the module's may still be done
}

// newWorker is what does f's steps from the first one on, for a turn that fits it.
func newWorker(m api.Module, f api.Fast, t api.Turn, steps int) *worker {
	w := &worker{Module: m, fast: f, begin: t, turn: t, left: steps}
	// An empty list may have room behind it, which is not the worker's.
	w.turn.Frames, w.turn.Effects = nil, nil
	w.regs = make([]api.Value, f.Regs)
	for i := range w.regs {
		w.regs[i].Kind = api.VInt
	}
	copy(w.regs, t.Frames[0].Vars)
	return w
}

// run does steps until one ends the turn, leaves, or may not be done any more, and tells how many were begun.
func (w *worker) run() (api.Turn, int) {
	leavesBy := w.waysBack()
	for begun := 1; ; begun++ {
		s := w.fast.Code[w.at]
		if s.Lead+s.Own > w.left {
			return w.spent(), begun
		}
		w.at++
		w.count(s.Lead)
		if w.does(s) {
			w.count(s.Own)
		} else {
			w.turn.Frames = leavesBy(s)
		}
		if w.turn.Over != api.Going || len(w.turn.Frames) > 0 {
			// Where frames were made the interpreter goes on; a turn that is over stays as it is, in memory of its own.
			return base.Run(w.Module, w.turn, w.left), begun
		}
	}
}

// waysBack makes what tells the frames that a step leaves by, of what the registers have then.
func (w *worker) waysBack() func(s api.Spec) []api.Frame {
	values := func(regs []int) []api.Value {
		all := make([]api.Value, 0, len(regs))
		for _, r := range regs {
			all = append(all, w.regs[r])
		}
		return all
	}
	return func(s api.Spec) []api.Frame {
		var all []api.Frame
		for _, b := range w.fast.Exits[s.Exit] {
			all = append(all, api.Frame{Fn: b.Fn, At: b.At, Vars: values(b.Vars), Stack: values(b.Stack)})
		}
		return all
	}
}

// count counts so many steps of the module's as done.
func (w *worker) count(steps int) {
	w.turn.Used += steps
	w.left -= steps
}

// spent is what becomes of a turn that has too few steps left: all are used, and nothing is done.
func (w *worker) spent() api.Turn {
	t := base.Run(w.Module, w.begin, 0)
	t.Used = w.turn.Used + w.left
	return t
}
