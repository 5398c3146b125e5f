package profile

import (
	"drover/api"
	"drover/base"
)

// Watch is what base.Run makes of t, and what was seen of m there.
func Watch(m api.Module, t api.Turn, steps int) (api.Turn, api.Profile) {
	over, p := base.Run(m, t, steps), Empty(m)
	done := over.Used - t.Used
	if done == 0 {
		return over, p
	}
	w := newWatch(m, t)
	for range done {
		f := w.turn.Frames[len(w.turn.Frames)-1]
		see(&p.Fns[f.Fn], f)
		w.step()
	}
	return over, p
}

// see puts what a frame has ahead of its step to what was seen of its function.
func see(seen *api.Seen, f api.Frame) {
	if f.At == 0 {
		seen.Calls++
	}
	for i := range min(len(f.Stack), 2) {
		seen.Tops[f.At][i] |= 1 << f.Stack[len(f.Stack)-1-i].Kind
	}
}

// watch is a turn under way, step by step. base.Step goes no further with one that has an actor below 0, as its Self, or who is spawned, may be; base.Run does. No step hangs on an actor's number, but on who is the same (a tuple of one below 0 is a trap, but base.Run tells when that is). So these go by other numbers here, which nobody else has.
type watch struct {
	module  api.Module
	turn    api.Turn
	next    int64 // who is in truth spawned next
	numbers map[int64]int64
	free    int64 // no number below that one is free
}

// newWatch is t, which m may go on with, ahead of its first step.
func newWatch(m api.Module, t api.Turn) *watch {
	w := &watch{module: m, turn: t, next: t.Next, numbers: map[int64]int64{}}
	w.keep(m.Consts)
	for _, f := range t.Frames {
		w.keep(f.Vars)
		w.keep(f.Stack)
	}
	w.turn.Self = w.number(t.Self)
	return w
}

// keep lets all actors of a list go by their own numbers.
func (w *watch) keep(list []api.Value) {
	for _, v := range list {
		if v.Kind == api.VActor {
			w.numbers[v.N] = v.N
		}
		w.keep(v.L)
	}
}

// number is what an actor goes by.
func (w *watch) number(actor int64) int64 {
	if n, ok := w.numbers[actor]; ok {
		return n
	}
	for w.isKept(w.free) {
		w.free++
	}
	w.numbers[actor] = w.free
	w.free++
	return w.numbers[actor]
}

// isKept tells whether an actor has a number that it goes by.
func (w *watch) isKept(actor int64) bool {
	_, ok := w.numbers[actor]
	return ok
}

// step does one step.
func (w *watch) step() {
	next := w.number(w.next)
	w.turn.Next = next
	// What was done is never asked again, and each step would copy all of it.
	w.turn.Effects = nil
	w.turn = base.Step(w.module, w.turn)
	w.next += w.turn.Next - next
}
