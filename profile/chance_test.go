package profile_test

import (
	"fmt"
	"math/rand/v2"
	"slices"
	"testing"

	"drover/api"
	"drover/base"
	"drover/code"
	"drover/profile"
)

// maker makes modules and turns by chance (always the same ones).
type maker struct {
	*rand.Rand
	m      api.Module
	bodies int // from this function on they are bodies
}

// value is a right one, often an actor of few.
func (r *maker) value(levels int) api.Value {
	kind := r.IntN(7)
	if kind == 3 && levels == 0 {
		kind = 0
	}
	switch kind {
	case 0:
		return number(r.Int64N(3))
	case 1:
		return truth(r.Int64N(2))
	case 2:
		return text([]string{"", "a", "b"}[r.IntN(3)])
	case 3:
		return tuple(r.values(r.IntN(3), levels-1)...)
	}
	return actor(r.Int64N(4))
}

// values is so many of them.
func (r *maker) values(n, levels int) []api.Value {
	all := make([]api.Value, n)
	for i := range all {
		all[i] = r.value(levels)
	}
	return all
}

// module makes one that is right: the functions ahead of the bodies, and two roles of two bodies each.
func (r *maker) module() api.Module {
	r.m = api.Module{Tags: []string{"a", "b"}, Consts: append(r.values(8, 2), truth(0), truth(1), number(1))}
	r.bodies = 1 + r.IntN(3)
	for range r.bodies {
		params := r.IntN(3)
		r.m.Fns = append(r.m.Fns, api.Fn{Params: params, Vars: params + 1})
	}
	for range 2 {
		part := api.Part{Params: r.IntN(3)}
		for k := range 2 {
			params := r.IntN(3)
			part.On = append(part.On, api.On{Tag: r.m.Tags[k], Params: params, Fn: len(r.m.Fns)})
			r.m.Fns = append(r.m.Fns, api.Fn{Params: part.Params + params, Vars: part.Params + params + 1})
		}
		r.m.Roles = append(r.m.Roles, part)
	}
	for i := range r.m.Fns {
		r.m.Fns[i].Code = r.code(i)
	}
	return r.m
}

// code is a function's, which has mostly as many values on the stack as its instructions take.
func (r *maker) code(fn int) []api.Ins {
	var all []api.Ins
	depth := 0
	for range 6 + r.IntN(25) {
		i, takes, puts := r.ins(fn)
		for ; depth < takes && r.IntN(30) > 0; depth++ {
			all = append(all, r.putting(fn))
		}
		all = append(all, i)
		depth = max(depth-takes, 0) + puts
	}
	last := api.Ins{Op: api.OReturn}
	if fn >= r.bodies {
		last.Op = api.OEnd
	}
	all = append(all, r.putting(fn), last)
	for i := range all {
		switch all[i].Op {
		case api.OJump, api.OUnless, api.OAnd, api.OOr:
			all[i].A = []int{0, min(i+2, len(all)-1), r.IntN(len(all))}[r.IntN(3)]
		}
	}
	return all
}

// putting is an instruction that puts a value.
func (r *maker) putting(fn int) api.Ins {
	switch r.IntN(4) {
	case 0:
		return api.Ins{Op: api.OConst, A: r.IntN(len(r.m.Consts))}
	case 1:
		return api.Ins{Op: api.OSelf}
	}
	return api.Ins{Op: api.OLoad, A: r.IntN(r.m.Fns[fn].Vars)}
}

// ins is an instruction, how many values it takes, and how many it puts. No tuple is made: of actors below 0 there is none.
func (r *maker) ins(fn int) (i api.Ins, takes, puts int) {
	switch r.IntN(14) {
	case 0:
		return api.Ins{Op: api.OStore, A: r.IntN(r.m.Fns[fn].Vars)}, 1, 0
	case 1, 2:
		i = api.Ins{Op: api.OCall, A: r.IntN(r.bodies)}
		return i, r.m.Fns[i.A].Params, 1
	case 3:
		i = api.Ins{Op: api.OSpawn, A: r.IntN(2)}
		return i, r.m.Roles[i.A].Params, 1
	case 4:
		return api.Ins{Op: api.OPop}, 1, 0
	case 5:
		return api.Ins{Op: api.OJump}, 0, 0
	case 6:
		return api.Ins{Op: api.OSelf}, 0, 1
	case 7:
		return api.Ins{Op: []api.Op{api.OAnd, api.OOr, api.OUnless, api.OTruth, api.ONot, api.OAdd, api.OLt, api.OAt, api.OLen, api.OCat}[r.IntN(10)]}, 2, 1
	case 8:
		return api.Ins{Op: api.OUnless}, 1, 0
	}
	return api.Ins{Op: []api.Op{api.OEq, api.ONe}[r.IntN(2)]}, 2, 1
}

// turn begins one of that module.
func (r *maker) turn(t *testing.T, self, next int64) api.Turn {
	t.Helper()
	role := r.IntN(2)
	on := r.m.Roles[role].On[r.IntN(2)]
	x, e := base.Begin(r.m, role, r.values(r.m.Roles[role].Params, 2), on.Tag, r.values(on.Params, 2), self, next)
	if e != api.OK || x.Over != api.Going {
		t.Fatal(e, x, code.Check(r.m))
	}
	return x
}

// second is another way to watch a turn in which no actor is below 0: base.Step, step by step.
func second(m api.Module, x api.Turn, steps int) api.Profile {
	var p api.Profile
	for _, f := range m.Fns {
		p.Fns = append(p.Fns, api.Seen{Tops: make([][2]uint8, len(f.Code))})
	}
	for ; steps > 0 && x.Over == api.Going; steps-- {
		f := x.Frames[len(x.Frames)-1]
		fn := &p.Fns[f.Fn]
		if f.At == 0 {
			fn.Calls++
		}
		slices.Reverse(f.Stack)
		for i, v := range f.Stack {
			if i < 2 {
				fn.Tops[f.At][i] |= 1 << v.Kind
			}
		}
		slices.Reverse(f.Stack)
		x = base.Step(m, x)
	}
	return p
}

// P13.4: Watch does what base.Run does, and sees each step; what is seen from a step on, and ahead of it, is together what is seen of all.
func TestWatchByChance(t *testing.T) {
	r := &maker{Rand: rand.New(rand.NewPCG(13, 2))}
	ends := map[string]int{}
	for n := range 600 {
		m := r.module()
		x := r.turn(t, r.Int64N(5), r.Int64N(5))
		steps := []int{400, 400, 30, 3, 1, 0}[r.IntN(6)]
		all := second(m, x, steps)
		wantWatch(t, fmt.Sprint("turn ", n), m, x, steps, all)
		over := base.Run(m, x, 400)
		ends[fmt.Sprint(over.Over, over.Trap)]++
		ahead, y := profile.Empty(m), x
		for range r.IntN(20) {
			_, p := profile.Watch(m, y, min(steps, 1))
			ahead, y, steps = profile.Add(ahead, p), base.Step(m, y), steps-1
		}
		if y.Over == api.Going {
			wantWatch(t, fmt.Sprint("rest of turn ", n), m, y, steps, second(m, y, steps))
		}
		_, p := profile.Watch(m, y, steps)
		wantTold(t, fmt.Sprint("parts of turn ", n), profile.Add(ahead, p), told(all))
	}
	for _, end := range []string{"1 0", "4 1", "4 6", "4 8", "4 9"} {
		if ends[end] == 0 {
			t.Error("no turn of such an end: ", end, ends)
		}
	}
}

// moved is a list of values in which each actor's number is so much more.
func moved(list []api.Value, by int64) []api.Value {
	all := slices.Clone(list)
	for i, v := range all {
		if v.Kind == api.VActor {
			all[i].N += by
		}
		all[i].L = moved(v.L, by)
	}
	return all
}

// movedTurn is a turn that begins, in which each actor's number is so much more.
func movedTurn(x api.Turn, by int64) api.Turn {
	x = plain(x)
	for i, f := range x.Frames {
		x.Frames[i].Vars, x.Frames[i].Stack = moved(f.Vars, by), moved(f.Stack, by)
	}
	x.State = moved(x.State, by)
	x.Self += by
	x.Next += by
	return x
}

// Where actors are below 0 as much is seen as where all have greater numbers.
func TestWatchActorsByChance(t *testing.T) {
	r := &maker{Rand: rand.New(rand.NewPCG(13, 3))}
	refused := 0
	for n := range 1500 {
		m := r.module()
		x := r.turn(t, r.Int64N(9)-5, r.Int64N(9)-5)
		for range r.IntN(8) {
			if y := base.Step(m, x); y.Over == api.Going && x.Self >= 0 && x.Next >= 0 {
				x = y
			}
		}
		great := m
		great.Consts = moved(m.Consts, 1000)
		wantWatch(t, fmt.Sprint("turn ", n), m, x, 60, second(great, movedTurn(x, 1000), 60))
		for y := x; y.Over == api.Going && y.Used < x.Used+60; {
			z := base.Step(m, y)
			if z.Used == y.Used {
				refused++
				break
			}
			y = z
		}
	}
	if refused < 100 {
		t.Error("turns that base.Step goes no further with: ", refused)
	}
}

// P13.4: Add hangs not on the order, nor on which are added first; nothing added is the same; what is told is read.
func TestAddByChance(t *testing.T) {
	r := rand.New(rand.NewPCG(13, 4))
	all := manyProfiles(r, 60)
	for i, a := range all {
		wantTold(t, "and nothing", profile.Add(a, fns()), told(a))
		wantTold(t, "nothing, and", profile.Add(fns(), a), told(a))
		for k, b := range all {
			sum := profile.Add(a, b)
			wantTold(t, "the second way", sum, told(added(a, b)))
			wantTold(t, "turned round", profile.Add(b, a), told(sum))
			c := all[(i*7+k)%len(all)]
			wantTold(t, "of three", profile.Add(a, profile.Add(b, c)), told(profile.Add(sum, c)))
			bytes, e := profile.Bytes(sum)
			back, f := profile.Read(bytes)
			if e != api.OK || f != api.OK {
				t.Error(e, f)
			}
			wantTold(t, "read", back, told(sum))
		}
	}
}

// added is another way to add: place by place, whatever is there.
func added(a, b api.Profile) (sum api.Profile) {
	for i := 0; i < len(a.Fns) || i < len(b.Fns); i++ {
		var all api.Seen
		for _, p := range []api.Profile{a, b} {
			if i >= len(p.Fns) {
				continue
			}
			all.Calls += p.Fns[i].Calls
			for k, sets := range p.Fns[i].Tops {
				if k == len(all.Tops) {
					all.Tops = append(all.Tops, [2]uint8{})
				}
				all.Tops[k][0] |= sets[0]
				all.Tops[k][1] |= sets[1]
			}
		}
		if all.Calls > mostCalls {
			all.Calls = mostCalls
		}
		sum.Fns = append(sum.Fns, all)
	}
	return sum
}
