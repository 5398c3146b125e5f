package opt_test

import (
	"fmt"
	"math"
	"math/rand/v2"
	"slices"
	"testing"

	"drover/api"
	"drover/code"
	"drover/opt"
	"drover/profile"
)

// maker makes modules, profiles and turns by chance (always the same ones).
type maker struct {
	*rand.Rand
	m      api.Module
	bodies int // from this function on they are bodies
}

// one is one of a list.
func one[T any](r *maker, all ...T) T {
	return all[r.IntN(len(all))]
}

// value is a right one, mostly an Int.
func (r *maker) value(levels int) api.Value {
	switch r.IntN(12) {
	case 0, 1:
		return truth(r.IntN(2) == 1)
	case 2:
		return text(one(r, "", "a", "b"))
	case 3:
		if levels > 0 {
			return tuple(r.values(r.IntN(3), levels-1)...)
		}
	case 4, 5:
		return actor(r.Int64N(4))
	case 6:
		return number(one[int64](r, math.MaxInt64, math.MinInt64, -1))
	}
	return number(r.Int64N(4))
}

// values is so many of them.
func (r *maker) values(n, levels int) []api.Value {
	all := make([]api.Value, n)
	for i := range all {
		all[i] = r.value(levels)
	}
	return all
}

// module makes one that is right: the functions ahead of the bodies, and two roles.
func (r *maker) module() api.Module {
	r.m = api.Module{Tags: []string{"a", "b", "c"}, Consts: append(r.values(6, 2), number(0), number(1), truth(false), truth(true))}
	r.bodies = 1 + r.IntN(4)
	for range r.bodies {
		params := r.IntN(3)
		r.m.Fns = append(r.m.Fns, api.Fn{Params: params, Vars: params + r.IntN(3)})
	}
	for range 2 {
		part := api.Part{Params: r.IntN(3)}
		for k := range 1 + r.IntN(2) {
			params := r.IntN(3)
			part.On = append(part.On, api.On{Tag: r.m.Tags[k], Params: params, Fn: len(r.m.Fns)})
			r.m.Fns = append(r.m.Fns, api.Fn{Params: part.Params + params, Vars: part.Params + params + r.IntN(3)})
		}
		r.m.Roles = append(r.m.Roles, part)
	}
	for fn := range r.m.Fns {
		r.m.Fns[fn].Code = r.code(fn)
	}
	return r.m
}

// writing is a function's code under way, and of which kind the values on the stack are behind it, as far as that is known (else 0).
type writing struct {
	*maker
	fn    int
	all   []api.Ins
	kinds []api.Kind
	jumps [][2]int // which instructions lead to the begin of which block
}

// code is a function's: straight on, or in blocks, each of which is come to with as many values from wherever.
func (r *maker) code(fn int) []api.Ins {
	w := &writing{maker: r, fn: fn}
	blocks := 1 + r.IntN(6)
	if fn < r.bodies && r.IntN(6) > 0 {
		blocks = 1
	}
	wants := make([]int, blocks+1)
	for b := 1; b < blocks; b++ {
		wants[b] = max(0, r.IntN(5)-2)
	}
	starts := make([]int, blocks)
	for b := range blocks {
		starts[b], w.kinds = len(w.all), make([]api.Kind, wants[b])
		for range r.IntN(8) {
			w.any()
		}
		if b == blocks-1 {
			w.last()
		} else {
			w.leave(wants, b)
		}
	}
	for _, j := range w.jumps {
		w.all[j[0]].A = starts[j[1]]
	}
	return w.all
}

// last ends the code.
func (w *writing) last() {
	if w.fn < w.bodies {
		if len(w.kinds) == 0 || w.IntN(2) == 0 {
			w.number()
		}
		w.add(ins(api.OReturn), 1)
		return
	}
	switch w.IntN(20) {
	case 0:
		w.add(ins(api.OStop), 0)
	case 1:
		role := w.IntN(2)
		w.have(w.m.Roles[role].Params)
		w.add(ins(api.OBecome, role), 0)
	default:
		w.add(ins(api.OEnd), 0)
	}
}

// leave leads from the block b to the next one, and perhaps to another one, mostly behind it.
func (w *writing) leave(wants []int, b int) {
	other := w.IntN(len(wants) - 1)
	if w.IntN(3) > 0 {
		other = b + 1 + w.IntN(len(wants)-b-2)
	}
	jump := func(op api.Op) {
		w.jumps = append(w.jumps, [2]int{len(w.all), other})
		w.add(ins(op), 0)
	}
	switch w.IntN(6) {
	case 0:
		w.to(wants[other])
		jump(api.OJump)
		w.kinds = make([]api.Kind, wants[b+1])
	case 1, 2:
		w.to(wants[other])
		w.truth()
		jump(api.OUnless)
		w.kinds = w.kinds[:wants[other]]
	case 3, 4:
		if wants[other] > 0 {
			w.to(wants[other] - 1)
			w.truth()
			jump(one(w.maker, api.OAnd, api.OOr))
			w.kinds = w.kinds[:wants[other]-1]
		}
	}
	w.to(wants[b+1])
}

// add writes an instruction that takes so many values, and puts some of these kinds.
func (w *writing) add(i api.Ins, takes int, puts ...api.Kind) {
	w.all = append(w.all, i)
	w.kinds = append(w.kinds[:len(w.kinds)-takes], puts...)
}

// to brings the stack to so many values.
func (w *writing) to(depth int) {
	for len(w.kinds) > depth {
		w.add(ins(api.OPop), 1)
	}
	w.have(depth)
}

// have sees to it that there are so many values.
func (w *writing) have(many int) {
	for len(w.kinds) < many {
		w.some()
	}
}

// number puts what is mostly an Int.
func (w *writing) number() {
	if f := w.m.Fns[w.fn]; f.Vars > 0 && w.IntN(3) > 0 {
		w.add(ins(api.OLoad, w.IntN(f.Vars)/3*3), 0, api.VInt)
		return
	}
	w.add(ins(api.OConst, len(w.m.Consts)-4+w.IntN(2)), 0, api.VInt)
}

// some puts a value.
func (w *writing) some() {
	vars := w.m.Fns[w.fn].Vars
	switch n := w.IntN(20); {
	case n == 0:
		w.add(ins(api.OSelf), 0, api.VActor)
	case n < 4 && vars > 0:
		w.add(ins(api.OLoad, w.IntN(vars)), 0, 0)
	case n < 6:
		at := w.IntN(len(w.m.Consts))
		w.add(ins(api.OConst, at), 0, w.m.Consts[at].Kind)
	default:
		w.number()
	}
}

// truth puts what is mostly a Bool.
func (w *writing) truth() {
	switch w.IntN(12) {
	case 0:
		w.some()
	case 1, 2:
		w.add(ins(api.OConst, len(w.m.Consts)-1-w.IntN(2)), 0, api.VBool)
	default:
		w.number()
		w.number()
		w.add(ins(one(w.maker, api.OEq, api.ONe, api.OLt, api.OLe, api.OGt, api.OGe)), 2, api.VBool)
		if w.IntN(4) == 0 {
			w.add(ins(api.ONot), 1, api.VBool)
		}
	}
}

// numbers sees to it that the topmost two are mostly Ints.
func (w *writing) numbers() {
	if n := len(w.kinds); n >= 2 && (w.kinds[n-1] == api.VInt && w.kinds[n-2] == api.VInt || w.IntN(10) == 0) {
		return
	}
	if n := len(w.kinds); n == 0 || w.kinds[n-1] != api.VInt {
		w.number()
	}
	w.number()
}

// any writes an instruction, and what it takes, unless that is there.
func (w *writing) any() {
	if len(w.kinds) > 6 {
		w.to(w.IntN(3))
	}
	f := w.m.Fns[w.fn]
	switch n := w.IntN(32); {
	case n < 6:
		w.some()
	case n < 13:
		w.numbers()
		w.add(ins(one(w.maker, api.OAdd, api.OAdd, api.OSub, api.OSub, api.OMul, api.ODiv, api.OMod)), 2, api.VInt)
	case n < 18 && f.Vars > 0:
		w.have(1)
		v := w.IntN(f.Vars)
		if v%3 == 0 && w.kinds[len(w.kinds)-1] != api.VInt && w.IntN(10) > 0 {
			w.number()
		}
		w.add(ins(api.OStore, v), 1)
	case n < 20:
		w.truth()
		w.add(ins(one(w.maker, api.ONot, api.OTruth)), 1, api.VBool)
	case n < 22:
		parts := w.IntN(4)
		w.have(parts)
		w.add(ins(api.OTuple, parts), parts, api.VTuple)
	case n < 25:
		parts := w.IntN(3)
		if w.IntN(8) > 0 {
			w.add(ins(api.OSelf), 0, api.VActor)
			w.to(len(w.kinds) + parts)
		}
		w.have(parts + 1)
		w.add(ins(api.OSend, w.IntN(3), parts), parts+1)
	case n < 29:
		fn := w.IntN(w.bodies)
		if w.fn < w.bodies && w.IntN(3) > 0 {
			fn = max(0, w.fn-1)
		}
		w.have(w.m.Fns[fn].Params)
		w.add(ins(api.OCall, fn), w.m.Fns[fn].Params, api.VInt)
	case n == 29 && w.IntN(2) == 0:
		w.rare()
	default:
		w.truth()
	}
}

// rare writes an instruction that there are no steps for.
func (w *writing) rare() {
	switch w.IntN(6) {
	case 0:
		w.number()
		w.add(ins(api.ONeg), 1, api.VInt)
	case 1:
		role := w.IntN(2)
		w.have(w.m.Roles[role].Params)
		w.add(ins(api.OSpawn, role), w.m.Roles[role].Params, api.VActor)
	case 2:
		w.have(1)
		w.add(ins(api.OLen), 1, api.VInt)
	default:
		w.add(ins(api.OTuple), 0, api.VTuple)
		w.add(ins(api.OTuple), 0, api.VTuple)
		w.add(ins(api.OCat), 2, api.VTuple)
	}
}

// profile is one by chance: mostly Ints.
func (r *maker) profile() api.Profile {
	rare := one(r, 4, 40, 1000, 1000)
	p := seen(r.m, ints, ints)
	for i := range p.Fns {
		for k := range p.Fns[i].Tops {
			if r.IntN(rare) == 0 {
				p.Fns[i].Tops[k][r.IntN(2)] = uint8(r.IntN(256))
			}
		}
		if r.IntN(30) == 0 {
			p.Fns[i].Tops = p.Fns[i].Tops[:r.IntN(len(p.Fns[i].Tops))]
		}
	}
	if r.IntN(30) == 0 {
		p.Fns = p.Fns[:r.IntN(len(p.Fns))]
	}
	return p
}

// turn begins one of a body.
func (r *maker) turn(t *testing.T, role, on int) api.Turn {
	t.Helper()
	many := r.m.Roles[role].Params + r.m.Roles[role].On[on].Params
	values := r.values(many, 2)
	if r.IntN(3) > 0 {
		for i := range values {
			values[i] = number(r.Int64N(5))
		}
	}
	return begun(t, r.m, role, on, one[int64](r, 7, 7, 0, 1<<40, math.MaxInt64, -1, math.MinInt64), values...)
}

// others is the module, with other functions instead of all that f does not rest on.
func (r *maker) others(f api.Fast) api.Module {
	old := r.m
	defer func() { r.m = old }()
	r.m.Fns = slices.Clone(r.m.Fns)
	for fn := range r.m.Fns {
		if fn == f.Fn || slices.ContainsFunc(f.Needs, func(n api.Need) bool { return n.Fn == fn }) {
			continue
		}
		own := &r.m.Fns[fn]
		if fn < r.bodies {
			own.Params = r.IntN(4)
		}
		own.Vars = own.Params + r.IntN(3)
		own.Code = r.code(fn)
	}
	return r.m
}

// secondDepths tells another way what Depths must: all pairs of an instruction and a depth that can be reached.
func secondDepths(m api.Module, fn int) []int {
	instructions := m.Fns[fn].Code
	reached := map[[2]int]int{{0, 0}: 1}
	for work := [][2]int{{0, 0}}; len(work) > 0; work = work[1:] {
		at, depth := work[0][0], work[0][1]
		if depth > mostStack {
			return nil
		}
		i := instructions[at]
		next, jump := depth, -1
		switch i.Op {
		case api.OConst, api.OLoad, api.OSelf:
			next++
		case api.OStore, api.OPop:
			next--
		case api.OTuple:
			next += 1 - i.A
		case api.OCall:
			next += 1 - m.Fns[i.A].Params
		case api.OSpawn:
			next += 1 - m.Roles[i.A].Params
		case api.OSend:
			next -= i.B + 1
		case api.OJump:
			next, jump = -1, depth
		case api.OUnless:
			next, jump = depth-1, depth-1
		case api.OAnd, api.OOr:
			next, jump = depth-1, depth
		case api.ONeg, api.ONot, api.OTruth, api.OLen:
			if depth < 1 {
				return nil
			}
		case api.OEnd, api.OStop:
			next = -1
		case api.OReturn:
			if depth < 1 {
				return nil
			}
			next = -1
		case api.OBecome:
			if depth < m.Roles[i.A].Params {
				return nil
			}
			next = -1
		default:
			if depth < 2 {
				return nil
			}
			next--
		}
		takesTooMany := next < 0 && i.Op != api.OJump && i.Op != api.OEnd && i.Op != api.OStop && i.Op != api.OReturn && i.Op != api.OBecome
		if puts := i.Op == api.OTuple || i.Op == api.OCall || i.Op == api.OSpawn; takesTooMany || puts && next < 1 {
			return nil
		}
		for _, to := range [][2]int{{at + 1, next}, {i.A, jump}} {
			if to[1] >= 0 && reached[to] == 0 {
				reached[to] = 1
				work = append(work, to)
			}
		}
	}
	all := slices.Repeat([]int{-1}, len(instructions))
	for pair := range reached {
		if all[pair[0]] >= 0 {
			return nil
		}
		all[pair[0]] = pair[1]
	}
	return all
}

// isPlain tells whether a body whose depths these are is one of which there is no FOut.
func isPlain(m api.Module, fn int, depths []int, p api.Profile) bool {
	for at, i := range m.Fns[fn].Code {
		if depths[at] < 0 {
			continue
		}
		switch {
		case slices.Contains([]api.Op{api.OConst, api.OLoad, api.OStore, api.OSelf, api.OPop, api.OEq, api.ONe, api.ONot, api.OTruth, api.OTuple, api.OSend, api.OUnless, api.OAnd, api.OOr, api.OJump, api.OEnd}, i.Op):
		case i.Op >= api.OAdd && i.Op <= api.OMod || i.Op >= api.OLt && i.Op <= api.OGe:
			if fn >= len(p.Fns) || at >= len(p.Fns[fn].Tops) || p.Fns[fn].Tops[at] != [2]uint8{ints, ints} {
				return false
			}
		default:
			return false
		}
	}
	return true
}

// counts is what came by chance: so that a test tells if it tries nothing.
type counts struct {
	bodies, plain, resting, other, ended, trapped, left int
	begun, used                                         int // of those that did not leave
}

// P15.1, P15.2: bodies by chance, by profiles by chance: the code is right, and does what the body does, to the step; also where other functions are others.
func TestByChance(t *testing.T) {
	var n counts
	for seed := range uint64(2500) {
		r := &maker{Rand: rand.New(rand.NewPCG(15, seed))}
		m := r.module()
		for fn := range m.Fns {
			if want := secondDepths(m, fn); want == nil {
				t.Fatalf("seed %d: the function %d is not shaped: %v", seed, fn, m.Fns[fn].Code)
			} else {
				wantDepths(t, fmt.Sprint("seed ", seed, " function ", fn), m, fn, want...)
			}
		}
		for role, part := range m.Roles {
			for on := range part.On {
				r.body(t, fmt.Sprint("seed ", seed), role, on, &n)
			}
		}
	}
	if n.bodies < 5000 || n.plain < 500 || n.resting < 500 || n.other < 1000 || n.ended < 4000 || n.trapped < 2000 || n.left < 4000 || n.begun*10 > n.used*8 {
		t.Errorf("too little was tried: %+v", n)
	}
}

// body tries code of a body.
func (r *maker) body(t *testing.T, what string, role, on int, n *counts) {
	t.Helper()
	fn := r.m.Roles[role].On[on].Fn
	p := r.profile()
	if r.IntN(4) == 0 {
		_, p = profile.Watch(r.m, r.turn(t, role, on), 60)
	}
	f := wantCode(t, what, r.m, fn, p)
	n.bodies++
	if isPlain(r.m, fn, opt.Depths(r.m, fn), p) {
		n.plain++
		if outs(f) > 0 {
			t.Fatalf("%s: FOut of a plain body: %s", what, shown(f))
		}
	}
	if len(f.Needs) > 0 {
		n.resting++
	}
	for range 3 {
		x := r.turn(t, role, on)
		got := wantSame(t, what, r.m, f, x, 60)
		switch {
		case got.turn.Over == api.Ended:
			n.ended++
		case got.turn.Over == api.Trapped && got.turn.Trap != api.TrapFuel:
			n.trapped++
		}
		if got.left {
			n.left++
		} else {
			n.begun, n.used = n.begun+got.begun, n.used+got.turn.Used
		}
		for range 4 {
			wantSame(t, what, r.m, f, x, r.IntN(got.turn.Used+2))
		}
	}
	m := r.others(f)
	if code.Check(m) != api.OK {
		t.Fatal(what, "others are not right")
	}
	for range 3 {
		x := r.turn(t, role, on)
		wantSame(t, what+" of others", m, f, x, r.IntN(60))
		n.other++
	}
}

// P15.1, P15.2: functions of any instructions: depths, or none; and ErrShape, or code.
func TestAnyCode(t *testing.T) {
	shaped, not := 0, 0
	for seed := range uint64(6000) {
		r := &maker{Rand: rand.New(rand.NewPCG(151, seed))}
		m := r.module()
		fn := r.IntN(len(m.Fns))
		own := m.Fns[fn].Code
		for range 1 + r.IntN(3) {
			i := &own[r.IntN(max(1, len(own)-1))]
			switch r.IntN(4) {
			case 0:
				i.A = r.IntN(len(own))
			case 1:
				*i = ins(one(r, api.OPop, api.OEq, api.OSelf, api.OTuple, api.ONot), 0)
			case 2:
				*i = ins(one(r, api.OJump, api.OUnless, api.OAnd, api.OOr), r.IntN(len(own)))
			}
		}
		if code.Check(m) != api.OK {
			wantDepths(t, "a wrong module", m, fn)
			wantError(t, "a wrong module", m, fn, seen(m, ints, ints), api.ErrCode)
			continue
		}
		want := secondDepths(m, fn)
		wantDepths(t, fmt.Sprint("seed ", seed, m.Fns[fn].Code), m, fn, want...)
		if want == nil {
			not++
			wantError(t, fmt.Sprint("seed ", seed), m, fn, seen(m, ints, ints), api.ErrShape)
			continue
		}
		shaped++
		for role, part := range m.Roles {
			for on, o := range part.On {
				if o.Fn != fn {
					continue
				}
				f := wantCode(t, fmt.Sprint("seed ", seed), m, fn, r.profile())
				for range 3 {
					wantSame(t, fmt.Sprint("seed ", seed), m, f, r.turn(t, role, on), r.IntN(60))
				}
			}
		}
	}
	if shaped < 500 || not < 500 {
		t.Error("too little was tried:", shaped, not)
	}
}
