package base

import (
	"slices"

	"drover/api"
)

// place tells where a list stands.
type place struct {
	first *api.Value
	many  int
}

// copied is t in memory of its own.
func copied(t api.Turn) api.Turn {
	t.Frames = slices.Clone(t.Frames)
	for i, f := range t.Frames {
		t.Frames[i].Vars, t.Frames[i].Stack = copies(f.Vars), copies(f.Stack)
	}
	t.Effects = slices.Clone(t.Effects)
	for i, e := range t.Effects {
		t.Effects[i].Args = copies(e.Args)
	}
	t.State = copies(t.State)
	return t
}

// copies is a list in memory of its own, with all that its tuples have.
func copies(list []api.Value) []api.Value {
	// A value that is not right may stand within itself, and so does its copy then: it would have no end otherwise.
	underWay := map[place][]api.Value{}
	var all func(list []api.Value) []api.Value
	all = func(list []api.Value) []api.Value {
		if len(list) == 0 {
			return nil
		}
		at := place{&list[0], len(list)}
		if own, ok := underWay[at]; ok {
			return own
		}
		own := slices.Clone(list)
		underWay[at] = own
		for i, v := range own {
			own[i].L = all(v.L)
		}
		delete(underWay, at)
		return own
	}
	return all(list)
}
