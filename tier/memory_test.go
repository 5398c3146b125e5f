package tier_test

import (
	"fmt"
	"math"
	"reflect"
	"slices"
	"testing"

	"drover/api"
	"drover/tier"
)

// lists is where all lists stand that have anything, with all that these have.
func lists(x reflect.Value) (all []uintptr) {
	switch x.Kind() {
	case reflect.Slice:
		if x.Len() > 0 {
			all = append(all, x.Pointer())
		}
		for i := range x.Len() {
			all = append(all, lists(x.Index(i))...)
		}
	case reflect.Struct:
		for i := range x.NumField() {
			all = append(all, lists(x.Field(i))...)
		}
	}
	return all
}

// wantOwn wants that an answer's lists stand apart from one another, and from what was handed in.
func wantOwn(t *testing.T, what string, answer api.Turn, given ...any) {
	t.Helper()
	seen := map[uintptr]int{}
	for _, g := range given {
		for _, at := range lists(reflect.ValueOf(g)) {
			seen[at]++
		}
	}
	for _, at := range lists(reflect.ValueOf(answer)) {
		if seen[at] > 0 {
			t.Errorf("%s: two lists share memory: %s", what, brief(told(answer)))
			return
		}
		seen[at]++
	}
}

// roomy is a list with room behind it, in which something stands.
func roomy[T any](l []T, with T) []T {
	long := append(slices.Clone(l), slices.Repeat([]T{with}, 300)...)
	return long[:len(l)]
}

// whole is all that a list has, with the room behind it.
func whole[T any](l []T) []T {
	return slices.Clone(l[:cap(l)])
}

// spread is having's module, code and a turn of it, all lists of which have room behind them; the values share what they have.
func spread(t *testing.T, steps string) (api.Module, api.Fast, api.Turn) {
	m := having(t)
	one := tuple(tuple(number(1)), text("ab"))
	one.L = roomy(one.L, text("?"))
	m.Consts[cTuple] = one
	m.Consts, m.Tags, m.Fns, m.Roles = roomy(m.Consts, text("?")), roomy(m.Tags, "?"), roomy(m.Fns, api.Fn{Name: "?"}), roomy(m.Roles, api.Part{Name: "?"})
	for i := range m.Fns {
		m.Fns[i].Code = roomy(m.Fns[i].Code, api.Ins{Op: 99})
	}
	f := fast(t, m, steps, []api.Back{back(2, 0, 3)[0], {Fn: fnPair, At: 1, Vars: []int{2, 2}, Stack: []int{3}}})
	f.Code, f.Exits = roomy(f.Code, api.Spec{Op: 99}), roomy(f.Exits, nil)
	f.Exits[0] = roomy(f.Exits[0], api.Back{Fn: -1})
	for i, b := range f.Exits[0] {
		f.Exits[0][i].Vars, f.Exits[0][i].Stack = roomy(b.Vars, -1), roomy(b.Stack, -1)
	}
	x := with(one, actor(3), one, one, one)
	x.State = roomy(list(one, one), text("?"))
	x.Effects = roomy(x.Effects, api.Effect{Tag: "?"})
	x.Frames = roomy(x.Frames, api.Frame{Fn: -1})
	x.Frames[0].Vars, x.Frames[0].Stack = roomy(x.Frames[0].Vars, text("?")), roomy(list(), text("?"))
	return m, f, x
}

// keptOf is all that was handed in, with the room behind each list.
func keptOf(m api.Module, f api.Fast, x api.Turn) []any {
	all := []any{whole(m.Consts), whole(m.Tags), whole(m.Fns), whole(m.Roles), whole(f.Code), whole(f.Exits), whole(x.State), whole(x.Effects), whole(x.Frames)}
	for _, g := range m.Fns {
		all = append(all, whole(g.Code))
	}
	for _, way := range f.Exits {
		all = append(all, whole(way))
		for _, b := range way {
			all = append(all, whole(b.Vars), whole(b.Stack))
		}
	}
	for _, g := range x.Frames {
		all = append(all, whole(g.Vars), whole(g.Stack))
	}
	for _, v := range slices.Concat(m.Consts, x.State) {
		all = append(all, whole(v.L))
	}
	return append(all, toldAll(m.Consts), told(x), shown(f))
}

// P16.1, R3: what is handed in stays as it is, with the room behind it; an answer stands in memory of its own, however it came about.
func TestMemory(t *testing.T) {
	for what, c := range map[string]struct {
		code string
		over api.Over
		do   func(m *api.Module, f *api.Fast, x *api.Turn)
	}{
		"ends":           {"const 2 2; const 0 2; send 1 1 3; tuple 4 2 2; send 0 1 3; send 0 1 3; move 1 4; end", api.Ended, nil},
		"ends at once":   {"end", api.Ended, nil},
		"leaves":         {"const 2 2; send 1 1 3; tuple 4 2 2; send 1 1 3; move 0 4; out", api.Ended, nil},
		"leaves at once": {"out", api.Ended, nil},
		"has too few":    {"send 1 1 3; move 4 2; jump 0", api.Trapped, nil},
		"goes on still":  {"const 2 2; self 1; send 0 1 2; tuple 4 2 2; out", api.Going, func(_ *api.Module, _ *api.Fast, x *api.Turn) { x.Self = -7 }},
		"is over":        {"end", api.Stopped, func(_ *api.Module, _ *api.Fast, x *api.Turn) { x.Over = api.Stopped }},
		"is not right":   {"end", api.Going, func(_ *api.Module, _ *api.Fast, x *api.Turn) { x.Role = 1 }},
		"is not code":    {"end", api.Ended, func(_ *api.Module, f *api.Fast, _ *api.Turn) { f.Regs = 1 }},
		"is no module":   {"end", api.Going, func(m *api.Module, _ *api.Fast, _ *api.Turn) { m.Fns[fnSum].Code = nil }},
		"has effects": {"end", api.Ended, func(_ *api.Module, _ *api.Fast, x *api.Turn) {
			x.Effects = append(x.Effects, api.Effect{To: 1, Role: -1, Args: x.State}, api.Effect{To: 1, Role: -1, Args: x.State})
		}},
	} {
		m, f, x := spread(t, c.code)
		if c.do != nil {
			c.do(&m, &f, &x)
		}
		ahead := keptOf(m, f, x)
		for _, steps := range []int{300, 3, 0, -1} {
			got, _ := tier.Run(m, f, x, steps)
			if steps == 300 && got.Over != c.over {
				t.Error(what, told(got))
			}
			wantOwn(t, fmt.Sprint(what, " with ", steps), got, m, f, x)
			if !reflect.DeepEqual(keptOf(m, f, x), ahead) {
				t.Errorf("%s with %d: something handed in is another one", what, steps)
			}
			// What becomes of an answer is nothing to the next one.
			again := told(got)
			for i := range got.State {
				got.State[i] = text("!")
			}
			if next, _ := tier.Run(m, f, x, steps); told(next) != again {
				t.Errorf("%s with %d: the second answer is %s", what, steps, brief(told(next)))
			}
		}
	}
}

// R1: no call panics, at any arguments.
func TestWrongArguments(t *testing.T) {
	m := having(t)
	loop := tuple(number(1), number(2))
	loop.L[1] = loop
	far := []int{math.MinInt, -1, 0, 1, 5, 11, 1 << 40, math.MaxInt}
	for _, n := range far {
		for _, k := range far {
			f := fast(t, m, "add 2 2 2; end", back(20, 2))
			for _, do := range []func(){
				func() { f.Fn = n }, func() { f.Regs = n }, func() { f.Code[0].A, f.Code[0].B = n, k }, func() { f.Code[0].C, f.Code[0].Exit = n, k }, func() { f.Code[0].Lead, f.Code[0].Own = n, k },
				func() { f.Exits[0][0].Fn, f.Exits[0][0].At = n, k }, func() { f.Exits[0][0].Vars[1], f.Exits[0][0].Stack[0] = n, k }, func() { f.Needs = []api.Need{{Fn: n, Sum: uint32(k)}} }, func() { f.Exits = nil },
			} {
				f = fast(t, m, "add 2 2 2; end", back(20, 2))
				do()
				for op := range api.FOp(30) {
					f.Code[0].Op = op
					x := with()
					got, begun, _ := secondRun(m, f, x, 20)
					wantRun(t, fmt.Sprint(op, n, k), m, f, x, 20, got, begun)
				}
			}
		}
		x := with()
		x.Frames[0].Vars[2], x.State[0] = loop, loop
		if got, begun := tier.Run(m, fast(t, m, "end"), x, n); begun != 0 || got.Over != api.Going || len(got.Frames) != 1 || len(got.State) != 2 {
			t.Error(n, begun)
		}
		if got, begun := tier.Run(api.Module{}, api.Fast{}, api.Turn{}, n); begun != 0 || !reflect.DeepEqual(got, api.Turn{}) {
			t.Error(n, begun, told(got))
		}
	}
}
