package ir_test

import (
	"encoding/binary"
	"hash/crc32"
	"math"
	"math/rand/v2"
	"slices"
	"testing"

	"drover/api"
	"drover/code"
	"drover/ir"
	"drover/tree"
)

// The limits, as the chapter has them.
const (
	mostRegs   = 1000
	mostSteps  = 4000
	mostExits  = 2000
	mostNeeds  = 100
	mostFrames = 3
	mostLead   = 1 << 14
	mostStack  = 200
	mostNumber = 1 << 20
	mostValues = 1 << 10
)

const (
	counter = "actor c(n) { on add(x) { set n = n + x; } }"
	// mixed has the functions g (one variable), h (none) and the bodies add (two), get (one), go (four), nil (none).
	mixed = `func g(a) { return a; } func h() { }
		actor c(n) { on add(x) { set n = n + x; send self add(x); } on get() { send self get(); } }
		actor d() { on go(p, q, r) { let s = 7; set s = 8; } } actor e() { on nil() { } }`
)

// The places of mixed's functions.
const (
	fnG, fnH, fnAdd, fnGet, fnGo, fnNil, manyFns = 0, 1, 2, 3, 4, 5, 6
)

// compiled is the module of a text.
func compiled(t *testing.T, text string) api.Module {
	t.Helper()
	p, f := tree.Parse(text)
	m, g := code.Compile(p)
	if f != (api.Fault{}) || g != (api.Fault{}) {
		t.Fatalf("%v %v of %s", f, g, text)
	}
	return m
}

// sum is a function's, by the library's own numbers and sums.
func sum(f api.Fn) uint32 {
	var b []byte
	for _, n := range []int{f.Params, f.Vars, len(f.Code)} {
		b = binary.AppendUvarint(b, uint64(n))
	}
	for _, i := range f.Code {
		for _, n := range []int{int(i.Op), i.A, i.B} {
			b = binary.AppendUvarint(b, uint64(n))
		}
	}
	return crc32.ChecksumIEEE(b)
}

// P14.1: the bytes that are summed up, of functions and bodies.
func TestSum(t *testing.T) {
	m := compiled(t, counter)
	// Params 2, Vars 2, 5 instructions: load 0 0, load 1 0, add 0 0, store 0 0, end 0 0.
	by := []byte{2, 2, 5, 2, 0, 0, 2, 1, 0, 4, 0, 0, 3, 0, 0, 34, 0, 0}
	if s := ir.Sum(m, 0); s != crc32.ChecksumIEEE(by) {
		t.Error(s)
	}
	m = compiled(t, mixed)
	for fn, f := range m.Fns {
		if s := ir.Sum(m, fn); s != sum(f) {
			t.Error(fn, s)
		}
	}
	// What is no module has sums, too.
	m = api.Module{Fns: []api.Fn{{}, {Params: 300, Vars: math.MaxInt, Code: []api.Ins{{Op: 255, A: 1 << 40, B: 200}}}}}
	if ir.Sum(m, 0) != crc32.ChecksumIEEE([]byte{0, 0, 0}) || ir.Sum(m, 1) != sum(m.Fns[1]) {
		t.Error(ir.Sum(m, 0), ir.Sum(m, 1))
	}
	m.Fns[1] = api.Fn{Params: -1, Vars: math.MinInt, Code: []api.Ins{{A: -2, B: -3}}}
	ir.Sum(m, 1) // it must end, and not panic
}

// P14.1: what is no place in Fns.
func TestSumNoPlace(t *testing.T) {
	m := compiled(t, mixed)
	for _, fn := range []int{-1, manyFns, manyFns + 1, math.MinInt, math.MaxInt} {
		if s := ir.Sum(m, fn); s != 0 {
			t.Error(fn, s)
		}
	}
	if s := ir.Sum(api.Module{}, 0); s != 0 {
		t.Error(s)
	}
}

// P14.4: a sum hangs on Params, Vars and code, and on nothing else.
func TestSumHangsOn(t *testing.T) {
	m := compiled(t, mixed)
	was := ir.Sum(m, fnAdd)
	change := func(what string, same bool, do func(m *api.Module, f *api.Fn)) {
		t.Helper()
		c := compiled(t, mixed)
		do(&c, &c.Fns[fnAdd])
		if (ir.Sum(c, fnAdd) == was) != same {
			t.Error(what)
		}
	}
	change("Params", false, func(m *api.Module, f *api.Fn) { f.Params++ })
	change("Vars", false, func(m *api.Module, f *api.Fn) { f.Vars++ })
	change("an instruction more", false, func(m *api.Module, f *api.Fn) { f.Code = append(f.Code, api.Ins{Op: api.OEnd}) })
	change("an instruction less", false, func(m *api.Module, f *api.Fn) { f.Code = f.Code[:len(f.Code)-1] })
	for i := range m.Fns[fnAdd].Code {
		change("Op", false, func(m *api.Module, f *api.Fn) { f.Code[i].Op++ })
		change("A", false, func(m *api.Module, f *api.Fn) { f.Code[i].A++ })
		change("B", false, func(m *api.Module, f *api.Fn) { f.Code[i].B++ })
	}
	change("its name", true, func(m *api.Module, f *api.Fn) { f.Name = "other" })
	change("other functions", true, func(m *api.Module, f *api.Fn) {
		m.Fns[fnG], m.Fns[fnGo] = api.Fn{Params: 7}, api.Fn{}
		m.Fns = m.Fns[:fnNil]
	})
	change("all else", true, func(m *api.Module, f *api.Fn) { m.Consts, m.Tags, m.Roles = nil, nil, nil })
}

// needs is code that rests on that.
func needs(all ...api.Need) api.Fast {
	return api.Fast{Needs: all}
}

// P14.1: Holds, of each need.
func TestHolds(t *testing.T) {
	m := compiled(t, mixed)
	of := func(fn int) api.Need { return api.Need{Fn: fn, Sum: sum(m.Fns[fn])} }
	off := func(fn int, by uint32) api.Need { return api.Need{Fn: fn, Sum: sum(m.Fns[fn]) + by} }
	for _, c := range []struct {
		what string
		f    api.Fast
		want bool
	}{
		{"none", needs(), true},
		{"an empty list", api.Fast{Needs: []api.Need{}}, true},
		{"one", needs(of(fnG)), true},
		{"the last one", needs(of(fnNil)), true},
		{"all", needs(of(fnG), of(fnH), of(fnAdd), of(fnGet), of(fnGo), of(fnNil)), true},
		{"one twice", needs(of(fnG), of(fnH), of(fnG)), true},
		{"the other one's sum", needs(api.Need{Fn: fnG, Sum: sum(m.Fns[fnH])}), false},
		{"one more", needs(off(fnG, 1)), false},
		{"one less", needs(off(fnG, math.MaxUint32)), false},
		{"the first one is wrong", needs(off(fnG, 1), of(fnH)), false},
		{"the last one is wrong", needs(of(fnH), off(fnG, 1)), false},
		{"one twice, wrong at last", needs(of(fnG), off(fnG, 1)), false},
		{"one twice, wrong at first", needs(off(fnG, 1), of(fnG)), false},
		{"0", needs(api.Need{Fn: fnG}), false},
		{"no place", needs(api.Need{Fn: manyFns}), false},
		{"below", needs(api.Need{Fn: -1}), false},
		{"far off", needs(api.Need{Fn: math.MaxInt}), false},
		{"far below", needs(of(fnH), api.Need{Fn: math.MinInt}), false},
	} {
		if ir.Holds(m, c.f) != c.want {
			t.Error(c.what)
		}
	}
	if ir.Holds(api.Module{}, needs(api.Need{})) || !ir.Holds(api.Module{}, needs()) {
		t.Error("of no module")
	}
	// More needs than Check takes, and a module that is none: that does not count here.
	many := needs(slices.Repeat([]api.Need{of(fnG), of(fnH)}, 1000)...)
	m.Roles[0].On[0].Fn = -1
	if !ir.Holds(m, many) {
		t.Error("2000 needs")
	}
}

// P14.1: many needs of a long function take no longer than one, about.
func TestHoldsMany(t *testing.T) {
	m := api.Module{Fns: []api.Fn{{Code: make([]api.Ins, 1<<14)}}}
	if !ir.Holds(m, needs(slices.Repeat([]api.Need{{Sum: sum(m.Fns[0])}}, 200000)...)) {
		t.Error("200000 needs")
	}
}

// P14.1: modules by chance.
func TestSumChance(t *testing.T) {
	r := rand.New(rand.NewPCG(14, 1))
	for range 300 {
		m := api.Module{Fns: make([]api.Fn, 1+r.IntN(4))}
		for i := range m.Fns {
			f := api.Fn{Params: r.IntN(40), Vars: r.IntN(400), Code: make([]api.Ins, r.IntN(300))}
			for k := range f.Code {
				f.Code[k] = api.Ins{Op: api.Op(r.UintN(256)), A: int(r.Uint64N(1<<40) >> r.IntN(41)), B: r.IntN(300)}
			}
			m.Fns[i] = f
		}
		fn := r.IntN(len(m.Fns))
		if s := ir.Sum(m, fn); s != sum(m.Fns[fn]) {
			t.Fatal(m.Fns[fn], s)
		}
	}
}

// R3, R4: what is handed in stays, and each call answers the same.
func TestSumLeaves(t *testing.T) {
	m, c := compiled(t, mixed), compiled(t, mixed)
	f, g := needs(api.Need{Fn: fnG, Sum: sum(m.Fns[fnG])}), needs(api.Need{Fn: fnG, Sum: sum(m.Fns[fnG])})
	for range 3 {
		if ir.Sum(m, fnAdd) != sum(c.Fns[fnAdd]) || !ir.Holds(m, f) {
			t.Error("it answers otherwise")
		}
	}
	if toldAll(m) != toldAll(c) || toldAll(f) != toldAll(g) {
		t.Error("it was changed")
	}
}
