package opt_test

import (
	"reflect"
	"slices"
	"testing"

	"drover/api"
	"drover/opt"
)

// filled is a list with room behind it, in which something stands.
func filled[T any](l []T, with T) []T {
	long := append(slices.Clone(l), with, with, with)
	return long[:len(l)]
}

// roomy is a module and a profile all lists of which have room behind them.
func roomy(m api.Module, p api.Profile) (api.Module, api.Profile) {
	m.Consts, m.Tags, m.Fns, m.Roles = filled(m.Consts, text("?")), filled(m.Tags, "?"), filled(m.Fns, api.Fn{Name: "?"}), filled(m.Roles, api.Part{Name: "?"})
	for i := range m.Fns {
		m.Fns[i].Code = filled(m.Fns[i].Code, ins(99))
	}
	for i := range m.Roles {
		m.Roles[i].On = filled(m.Roles[i].On, api.On{Tag: "?"})
	}
	p.Fns = filled(p.Fns, api.Seen{Calls: 99})
	for i := range p.Fns {
		p.Fns[i].Tops = filled(p.Fns[i].Tops, [2]uint8{9, 9})
	}
	return m, p
}

// whole is all that a module and a profile have, with the room behind their lists.
func whole(m api.Module, p api.Profile) []any {
	all := []any{slices.Clone(m.Consts[:cap(m.Consts)]), slices.Clone(m.Tags[:cap(m.Tags)]), slices.Clone(m.Fns[:cap(m.Fns)]), slices.Clone(m.Roles[:cap(m.Roles)]), slices.Clone(p.Fns[:cap(p.Fns)])}
	for _, f := range m.Fns {
		all = append(all, slices.Clone(f.Code[:cap(f.Code)]))
	}
	for _, r := range m.Roles {
		all = append(all, slices.Clone(r.On[:cap(r.On)]))
	}
	for _, s := range p.Fns {
		all = append(all, slices.Clone(s.Tops[:cap(s.Tops)]))
	}
	return all
}

// lists are all lists of registers that a code has.
func lists(f api.Fast) [][]int {
	var all [][]int
	for _, way := range f.Exits {
		for _, b := range way {
			all = append(all, b.Vars, b.Stack)
		}
	}
	return all
}

// P15.1, P15.2, R3: what is handed in stays as it is, with the room behind it; no two lists of an answer share memory.
func TestMemory(t *testing.T) {
	m := handler(t, "load 3; load 4; call 1; load 4; load 3; sub; load 3; or x; load 4; x: pop; store 1; store 0; load 3; len; store 1; end",
		fn(2, 3, "load 0; load 1; call 3; store 2; load 2; load 0; mul; return"), fn(2, 2, "load 0; load 1; sub; return"))
	m, p := roomy(m, seen(m, ints, ints))
	before := whole(m, p)
	f := wantCode(t, "a body", m, 0, p)
	depths := opt.Depths(m, 0)
	if len(f.Needs) != 2 || len(f.Exits) < 4 || depths == nil {
		t.Fatal(shown(f), depths)
	}
	opt.Compile(m, 1, p)
	opt.Depths(m, 9)
	if !reflect.DeepEqual(whole(m, p), before) {
		t.Error("something handed in is another one")
	}
	all := lists(f)
	for i, l := range all {
		others := make([][]int, len(all))
		for j := range all {
			others[j] = slices.Clone(all[j])
		}
		for k := range l[:cap(l)] {
			l[:cap(l)][k] = -7
		}
		for j := range all {
			if j != i && !slices.Equal(all[j], others[j]) {
				t.Error("the lists", i, "and", j, "share memory")
			}
		}
	}
	for _, way := range f.Exits {
		for k := range way[:cap(way)] {
			way[:cap(way)][k] = api.Back{Fn: -7}
		}
	}
	for k := range f.Exits {
		f.Exits[k] = nil
	}
	for k := range depths[:cap(depths)] {
		depths[:cap(depths)][k] = -7
	}
	// The next answers have nothing of that.
	wantCode(t, "a body", m, 0, p)
	if !reflect.DeepEqual(whole(m, p), before) || slices.Equal(opt.Depths(m, 0), depths) {
		t.Error("an answer and what was handed in share memory")
	}
}
