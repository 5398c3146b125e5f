package ir_test

import (
	"fmt"
	"math"
	"testing"

	"drover/api"
	"drover/ir"
)

// P14.2: each Op as a word.
func TestShowOps(t *testing.T) {
	words := []string{
		"op0", "move", "const", "self", "guard", "add", "sub", "mul", "div", "mod", "not", "eq", "ne", "lt", "le", "gt", "ge",
		"jump", "if", "send", "tuple", "end", "out",
	}
	for op := range 256 {
		want := fmt.Sprintf("op%d 0 0 0 0 0 0", op)
		if op < len(words) {
			want = words[op] + " 0 0 0 0 0 0"
		}
		if s := ir.Show(api.Spec{Op: api.FOp(op)}); s != want {
			t.Errorf("%q, not %q", s, want)
		}
	}
}

// P14.2: the numbers, in their order, whatever they are.
func TestShowNumbers(t *testing.T) {
	for _, c := range []struct {
		s    api.Spec
		want string
	}{
		{api.Spec{Op: api.FAdd, A: 2, B: 0, C: 1, Lead: 2, Own: 1, Exit: 0}, "add 2 0 1 2 1 0"},
		{api.Spec{Op: api.FIf, A: 1, B: 2, C: 3, Lead: 4, Own: 5, Exit: 6}, "if 1 2 3 4 5 6"},
		{api.Spec{Op: api.FEnd, Own: 1, Exit: -1}, "end 0 0 0 0 1 -1"},
		{api.Spec{Op: 23, A: -1, B: math.MaxInt, C: math.MinInt, Lead: 10, Own: -20, Exit: 100}, "op23 -1 9223372036854775807 -9223372036854775808 10 -20 100"},
	} {
		if s := ir.Show(c.s); s != c.want {
			t.Errorf("%q, not %q", s, c.want)
		}
	}
}
