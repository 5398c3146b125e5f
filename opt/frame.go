package opt

import (
	"slices"

	"drover/api"
)

// frame is a function under way, as it is known while its steps are written: which registers its variables and the values of its stack are in.
//
// A variable of a body is in the register of its number. That of another function is in its own register, or in one below all of the function's own: these stay as they are till it is over. A value of the stack is in the register of its place (see slot), or, if it was but loaded or handed back, in one below all slots.
type frame struct {
	fn, at      int
	vars, stack []int
	own         int // the variable 0's own register
	slots       int // the register of the stack's lowest place
}

// slot is the register of a place of the stack.
func (f *frame) slot(place int) int {
	return f.slots + place
}

// next is the register of the place that the next value is put to.
func (f *frame) next() int {
	return f.slot(len(f.stack))
}

// top is the register that the top's value is in.
func (f *frame) top() int {
	return f.stack[len(f.stack)-1]
}

// take takes so many values, and tells their registers.
func (f *frame) take(many int) []int {
	left := len(f.stack) - many
	took := slices.Clone(f.stack[left:])
	f.stack = f.stack[:left]
	return took
}

// back is a way back to the frame, where it is.
func (f *frame) back() api.Back {
	return api.Back{Fn: f.fn, At: f.at, Vars: slices.Clone(f.vars), Stack: slices.Clone(f.stack)}
}
