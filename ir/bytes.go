package ir

import (
	"math"

	"drover/api"
	"drover/bytes"
)

// What can be told at most, beside what is said in check.go.
const (
	mostNumber = 1 << 20
	mostValues = 1 << 10 // variables of a frame; values of its stack
)

// Bytes is f as bytes.
func Bytes(f api.Fast) ([]byte, api.Errno) {
	w := &writer{}
	w.numbers(f.Fn, f.Regs)
	put(w, f.Code, api.MaxSteps, func(s api.Spec) {
		w.numbers(int(s.Op), s.A, s.B, s.C, s.Lead, s.Own)
		w.exit(s.Exit)
	})
	put(w, f.Exits, api.MaxExits, func(frames []api.Back) {
		put(w, frames, mostFrames, func(b api.Back) {
			w.numbers(b.Fn, b.At)
			put(w, b.Vars, mostValues, func(r int) { w.numbers(r) })
			put(w, b.Stack, mostValues, func(r int) { w.numbers(r) })
		})
	})
	put(w, f.Needs, mostNeeds, func(n api.Need) {
		w.numbers(n.Fn)
		w.write(bytes.Uint(nil, uint64(n.Sum)))
	})
	if w.wrong {
		return nil, api.ErrShape
	}
	return w.all, api.OK
}

// writer writes numbers, one behind the other, until one is wrong.
type writer struct {
	all   []byte
	wrong bool
}

// write puts bytes behind all others.
func (w *writer) write(b []byte) {
	if !w.wrong {
		w.all = append(w.all, b...)
	}
}

// numbers puts numbers that are neither below 0 nor too great.
func (w *writer) numbers(nums ...int) {
	for _, n := range nums {
		w.wrong = w.wrong || n < 0 || n > mostNumber
		w.write(bytes.Uint(nil, uint64(n)))
	}
}

// exit puts the place of a way back, or -1.
func (w *writer) exit(n int) {
	w.wrong = w.wrong || n < -1 || n > mostNumber
	w.write(bytes.Int(nil, int64(n)))
}

// put puts how many things there are, and each of them; they are not gone through any more when one is wrong.
func put[T any](w *writer, things []T, most int, one func(thing T)) {
	w.wrong = w.wrong || len(things) > most
	w.write(bytes.Uint(nil, uint64(len(things))))
	for _, thing := range things {
		if w.wrong {
			return
		}
		one(thing)
	}
}

// Read is the code whose bytes these are.
func Read(b []byte) (api.Fast, api.Errno) {
	r := &reader{b: b}
	f := api.Fast{Fn: r.number(), Regs: r.number()}
	f.Code = get(r, api.MaxSteps, r.step)
	f.Exits = get(r, api.MaxExits, func() []api.Back { return get(r, mostFrames, r.frame) })
	f.Needs = get(r, mostNeeds, func() api.Need { return api.Need{Fn: r.number(), Sum: uint32(r.uint(math.MaxUint32))} })
	if r.wrong || r.at != len(b) {
		return api.Fast{}, api.ErrShape
	}
	return f, api.OK
}

// reader gets numbers out of bytes, one behind the other, until one is wrong.
type reader struct {
	b     []byte
	at    int
	wrong bool
}

// uint is the next number, or 0, if it is wrong or above most, or one ahead of it was.
func (r *reader) uint(most uint64) int {
	n, next, e := bytes.GetUint(r.b, r.at)
	r.wrong = r.wrong || e != api.OK || n > most
	if r.wrong {
		return 0
	}
	r.at = next
	return int(n)
}

// number is the next number that is not too great.
func (r *reader) number() int {
	return r.uint(mostNumber)
}

// exit is the place of a way back, or -1.
func (r *reader) exit() int {
	n, next, e := bytes.GetInt(r.b, r.at)
	r.wrong = r.wrong || e != api.OK || n < -1 || n > mostNumber
	if r.wrong {
		return 0
	}
	r.at = next
	return int(n)
}

// get is how many things there are, and each of them, until one is wrong.
func get[T any](r *reader, most uint64, one func() T) []T {
	var things []T
	for range r.uint(most) {
		if r.wrong {
			break
		}
		things = append(things, one())
	}
	return things
}

// step is the next step.
func (r *reader) step() api.Spec {
	return api.Spec{
		Op: api.FOp(r.uint(math.MaxUint8)),
		A:  r.number(), B: r.number(), C: r.number(),
		Lead: r.number(), Own: r.number(),
		Exit: r.exit(),
	}
}

// frame is the next frame of a way back.
func (r *reader) frame() api.Back {
	return api.Back{
		Fn: r.number(), At: r.number(),
		Vars:  get(r, mostValues, r.number),
		Stack: get(r, mostValues, r.number),
	}
}
