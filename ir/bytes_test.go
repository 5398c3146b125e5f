package ir_test

import (
	"encoding/binary"
	"fmt"
	"math"
	"math/rand/v2"
	"slices"
	"testing"

	"drover/api"
	"drover/ir"
)

// withRoom is a list with room for more, in which something stands.
func withRoom[T any](list []T, fill T) []T {
	all := append(slices.Clone(list), fill, fill, fill)
	return all[:len(list)]
}

// roomy is f with spare room in all its lists.
func roomy(f api.Fast) api.Fast {
	f.Code = withRoom(f.Code, api.Spec{A: 77})
	f.Needs = withRoom(f.Needs, api.Need{Fn: 77})
	f.Exits = withRoom(f.Exits, []api.Back{{Fn: 77}})
	for i := range f.Exits {
		f.Exits[i] = withRoom(f.Exits[i], api.Back{Fn: 77})
		for k := range f.Exits[i] {
			b := &f.Exits[i][k]
			b.Vars, b.Stack = withRoom(b.Vars, 77), withRoom(b.Stack, 77)
		}
	}
	return f
}

// spare is what stands in the spare room of f's lists.
func spare(f api.Fast) string {
	all := fmt.Sprint(f.Code[:cap(f.Code)], f.Needs[:cap(f.Needs)], f.Exits[:cap(f.Exits)])
	for _, frames := range f.Exits {
		all += fmt.Sprint(frames[:cap(frames)])
		for _, b := range frames {
			all += fmt.Sprint(b.Vars[:cap(b.Vars)], b.Stack[:cap(b.Stack)])
		}
	}
	return all
}

// written is f's bytes, by the library's own numbers.
func written(f api.Fast) []byte {
	var b []byte
	put := func(nums ...int) {
		for _, n := range nums {
			b = binary.AppendUvarint(b, uint64(n))
		}
	}
	put(f.Fn, f.Regs, len(f.Code))
	for _, s := range f.Code {
		put(int(s.Op), s.A, s.B, s.C, s.Lead, s.Own)
		b = binary.AppendVarint(b, int64(s.Exit))
	}
	put(len(f.Exits))
	for _, frames := range f.Exits {
		put(len(frames))
		for _, a := range frames {
			put(a.Fn, a.At, len(a.Vars))
			put(a.Vars...)
			put(len(a.Stack))
			put(a.Stack...)
		}
	}
	put(len(f.Needs))
	for _, n := range f.Needs {
		put(n.Fn, int(n.Sum))
	}
	return b
}

// wantBytes wants that of Bytes, and that Read tells the same code again.
func wantBytes(t *testing.T, what string, f api.Fast, want ...byte) {
	t.Helper()
	b, e := ir.Bytes(f)
	if e != api.OK || !slices.Equal(b, want) {
		t.Errorf("%s: %d bytes, %d", what, len(b), e)
		return
	}
	g, e := ir.Read(b)
	if e != api.OK || toldAll(g) != toldAll(f) {
		t.Errorf("%s, read: %d", what, e)
	}
}

// P14.3: the form, byte by byte.
func TestBytes(t *testing.T) {
	wantBytes(t, "nothing", api.Fast{}, 0, 0, 0, 0, 0)
	wantBytes(t, "empty lists", api.Fast{Code: []api.Spec{}, Exits: [][]api.Back{}, Needs: []api.Need{}}, 0, 0, 0, 0, 0)
	wantBytes(t, "Fn, Regs", api.Fast{Fn: 1, Regs: 300}, 1, 172, 2, 0, 0, 0)
	wantBytes(t, "a step", api.Fast{Code: []api.Spec{{Op: 1, A: 2, B: 3, C: 4, Lead: 5, Own: 6, Exit: 7}}}, 0, 0, 1, 1, 2, 3, 4, 5, 6, 14, 0, 0)
	wantBytes(t, "steps", api.Fast{Code: []api.Spec{{Exit: -1}, {Op: 255, Exit: 64}}}, 0, 0, 2, 0, 0, 0, 0, 0, 0, 1, 255, 1, 0, 0, 0, 0, 0, 128, 1, 0, 0)
	wantBytes(t, "a way back of none", api.Fast{Exits: [][]api.Back{nil}}, 0, 0, 0, 1, 0, 0)
	wantBytes(t, "ways back", api.Fast{Exits: [][]api.Back{{{Fn: 1, At: 2, Vars: []int{3, 4}, Stack: []int{5}}, {}}, {{At: 9}}}},
		0, 0, 0, 2, 2, 1, 2, 2, 3, 4, 1, 5, 0, 0, 0, 0, 1, 0, 9, 0, 0, 0)
	wantBytes(t, "needs", api.Fast{Needs: []api.Need{{Fn: 1, Sum: 2}, {Fn: 128, Sum: math.MaxUint32}}}, 0, 0, 0, 0, 2, 1, 2, 128, 1, 255, 255, 255, 255, 15)
	wantBytes(t, "the example", api.Fast{Regs: 3, Code: []api.Spec{{Op: api.FAdd, A: 2, B: 0, C: 1, Lead: 2, Own: 1}, end()}, Exits: [][]api.Back{{{At: 2, Vars: []int{0, 1}, Stack: []int{0, 1}}}}},
		0, 3, 2, 5, 2, 0, 1, 2, 1, 0, 21, 0, 0, 0, 0, 1, 1, 1, 1, 0, 2, 2, 0, 1, 2, 0, 1, 0)
}

// wantNoBytes wants that Bytes refuses f.
func wantNoBytes(t *testing.T, what string, f api.Fast) {
	t.Helper()
	if b, e := ir.Bytes(f); e != api.ErrShape || b != nil {
		t.Errorf("%s: %d bytes, %d", what, len(b), e)
	}
}

// full is code in which there is two of all.
func full() api.Fast {
	frames := func() []api.Back {
		return []api.Back{{Fn: 1, At: 2, Vars: []int{3, 4}, Stack: []int{5, 6}}, {Fn: 7, At: 8, Vars: []int{9, 10}, Stack: []int{11, 12}}}
	}
	return api.Fast{
		Fn: 1, Regs: 2, Code: []api.Spec{{Op: 3, A: 4, B: 5, C: 6, Lead: 7, Own: 8, Exit: 9}, {Op: 10, A: 11, B: 12, C: 13, Lead: 14, Own: 15, Exit: -1}},
		Exits: [][]api.Back{frames(), frames()}, Needs: []api.Need{{Fn: 1, Sum: 2}, {Fn: 3, Sum: 4}},
	}
}

// P14.3: each number, on both sides of what it may be.
func TestBytesNumbers(t *testing.T) {
	try := func(what string, least int, number func(f *api.Fast) *int) {
		t.Helper()
		for _, n := range []int{math.MinInt, -3, -2, -1, 0, 1, 127, 128, mostNumber - 1, mostNumber, mostNumber + 1, 1 << 31, 1 << 32, math.MaxInt} {
			f := full()
			*number(&f) = n
			if n < least || n > mostNumber {
				wantNoBytes(t, fmt.Sprint(what, " ", n), f)
			} else {
				wantBytes(t, fmt.Sprint(what, " ", n), f, written(f)...)
			}
		}
	}
	try("Fn", 0, func(f *api.Fast) *int { return &f.Fn })
	try("Regs", 0, func(f *api.Fast) *int { return &f.Regs })
	for i := range 2 {
		try("A", 0, func(f *api.Fast) *int { return &f.Code[i].A })
		try("B", 0, func(f *api.Fast) *int { return &f.Code[i].B })
		try("C", 0, func(f *api.Fast) *int { return &f.Code[i].C })
		try("Lead", 0, func(f *api.Fast) *int { return &f.Code[i].Lead })
		try("Own", 0, func(f *api.Fast) *int { return &f.Code[i].Own })
		try("Exit", -1, func(f *api.Fast) *int { return &f.Code[i].Exit })
		try("Fn of a need", 0, func(f *api.Fast) *int { return &f.Needs[i].Fn })
		for k := range 2 {
			try("Fn of a frame", 0, func(f *api.Fast) *int { return &f.Exits[i][k].Fn })
			try("At", 0, func(f *api.Fast) *int { return &f.Exits[i][k].At })
			for j := range 2 {
				try("Vars", 0, func(f *api.Fast) *int { return &f.Exits[i][k].Vars[j] })
				try("Stack", 0, func(f *api.Fast) *int { return &f.Exits[i][k].Stack[j] })
			}
		}
	}
	for _, sum := range []uint32{0, 1, mostNumber, mostNumber + 1, 1 << 31, math.MaxUint32} {
		f := full()
		f.Needs[0].Sum, f.Needs[1].Sum = sum, sum
		wantBytes(t, "Sum", f, written(f)...)
	}
}

// P14.3: how many of each there may be.
func TestBytesLimits(t *testing.T) {
	try := func(what string, most int, do func(f *api.Fast, n int)) {
		t.Helper()
		for _, n := range []int{0, 1, most - 1, most, most + 1, 2 * most} {
			f := full()
			do(&f, n)
			if n > most {
				wantNoBytes(t, fmt.Sprint(what, " ", n), f)
			} else {
				wantBytes(t, fmt.Sprint(what, " ", n), f, written(f)...)
			}
		}
	}
	try("steps", mostSteps, func(f *api.Fast, n int) { f.Code = make([]api.Spec, n) })
	try("ways back", mostExits, func(f *api.Fast, n int) { f.Exits = make([][]api.Back, n) })
	try("needs", mostNeeds, func(f *api.Fast, n int) { f.Needs = make([]api.Need, n) })
	for i := range 2 {
		try("frames", mostFrames, func(f *api.Fast, n int) { f.Exits[i] = make([]api.Back, n) })
		for k := range 2 {
			try("Vars", mostValues, func(f *api.Fast, n int) { f.Exits[i][k].Vars = make([]int, n) })
			try("Stack", mostValues, func(f *api.Fast, n int) { f.Exits[i][k].Stack = make([]int, n) })
		}
	}
	// The two lists of a frame count each by itself.
	f := full()
	f.Exits[0][0].Vars, f.Exits[0][0].Stack = make([]int, mostValues), make([]int, mostValues)
	wantBytes(t, "both", f, written(f)...)
}

// wantWrong wants that Read refuses b.
func wantWrong(t *testing.T, what string, b ...byte) {
	t.Helper()
	if f, e := ir.Read(b); e != api.ErrShape || toldAll(f) != toldAll(api.Fast{}) || f.Code != nil || f.Exits != nil || f.Needs != nil {
		t.Errorf("%s: %+v %d", what, f, e)
	}
}

// P14.3: what is no code's.
func TestReadWrong(t *testing.T) {
	wantWrong(t, "nothing")
	wantWrong(t, "something behind it", 0, 0, 0, 0, 0, 0)
	wantWrong(t, "a longer form", 128, 0, 0, 0, 0, 0)
	wantWrong(t, "a longer form of Regs", 0, 129, 0, 0, 0, 0)
	wantWrong(t, "2^20 + 1", 129, 128, 64, 0, 0, 0, 0)
	wantWrong(t, "Regs of 2^20 + 1", 0, 129, 128, 64, 0, 0, 0)
	wantWrong(t, "2^64 - 1", 255, 255, 255, 255, 255, 255, 255, 255, 255, 1, 0, 0, 0, 0)
	wantWrong(t, "2^64 - 1 steps", 0, 0, 255, 255, 255, 255, 255, 255, 255, 255, 255, 1)
	wantWrong(t, "Op of 256", 0, 0, 1, 128, 2, 0, 0, 0, 0, 0, 0, 0, 0)
	wantWrong(t, "Exit of -2", 0, 0, 1, 1, 0, 0, 0, 0, 0, 3, 0, 0)
	wantWrong(t, "Exit of 2^20 + 1", 0, 0, 1, 1, 0, 0, 0, 0, 0, 130, 128, 128, 1, 0, 0)
	wantWrong(t, "Exit of -2^63", 0, 0, 1, 1, 0, 0, 0, 0, 0, 255, 255, 255, 255, 255, 255, 255, 255, 255, 1, 0, 0)
	wantWrong(t, "a longer form of Exit", 0, 0, 1, 1, 0, 0, 0, 0, 0, 130, 0, 0, 0)
	wantWrong(t, "Sum of 2^32", 0, 0, 0, 0, 1, 0, 128, 128, 128, 128, 16)
	wantWrong(t, "Fn of a need of 2^20 + 1", 0, 0, 0, 0, 1, 129, 128, 64, 0)
	wantWrong(t, "a longer form of Sum", 0, 0, 0, 0, 1, 0, 129, 0)
	wantWrong(t, "Vars of 2^20 + 1", 0, 0, 0, 1, 1, 0, 0, 1, 129, 128, 64, 0, 0)
	wantWrong(t, "four frames", append([]byte{0, 0, 0, 1, 4}, make([]byte, 17)...)...)
	wantWrong(t, "4001 steps", append([]byte{0, 0, 161, 31}, make([]byte, 7*4001+2)...)...)
	wantWrong(t, "2001 ways back", append([]byte{0, 0, 0, 209, 15}, make([]byte, 2002)...)...)
	wantWrong(t, "101 needs", append([]byte{0, 0, 0, 0, 101}, make([]byte, 202)...)...)
	wantWrong(t, "1025 Vars", append([]byte{0, 0, 0, 1, 1, 0, 0, 129, 8}, make([]byte, 1027)...)...)
	wantWrong(t, "1025 Stack", append([]byte{0, 0, 0, 1, 1, 0, 0, 0, 129, 8}, make([]byte, 1026)...)...)
}

// chanceFast is code by chance, all of which may be told.
func chanceFast(r *rand.Rand) api.Fast {
	number := func() int { return r.IntN(mostNumber+1) >> r.IntN(21) }
	numbers := func() []int {
		all := make([]int, r.IntN(4))
		for i := range all {
			all[i] = number()
		}
		return all
	}
	f := api.Fast{Fn: number(), Regs: number()}
	for range r.IntN(5) {
		f.Code = append(f.Code, api.Spec{Op: api.FOp(r.UintN(256)), A: number(), B: number(), C: number(), Lead: number(), Own: number(), Exit: number() - 1})
	}
	for range r.IntN(4) {
		var frames []api.Back
		for range r.IntN(4) {
			frames = append(frames, api.Back{Fn: number(), At: number(), Vars: numbers(), Stack: numbers()})
		}
		f.Exits = append(f.Exits, frames)
	}
	for range r.IntN(4) {
		f.Needs = append(f.Needs, api.Need{Fn: number(), Sum: r.Uint32() >> r.IntN(33)})
	}
	return f
}

// wantOnlyForm wants that b, if it is read, is what is told of that, else no error but one and nothing beside it.
func wantOnlyForm(t *testing.T, b []byte) {
	t.Helper()
	f, e := ir.Read(b)
	if e != api.OK {
		wantWrong(t, "by chance", b...)
	} else if c, e := ir.Bytes(f); e != api.OK || !slices.Equal(b, c) || !slices.Equal(b, written(f)) {
		t.Errorf("%v was read as %+v, of which %v %d is told", b, f, c, e)
	}
}

// P14.3, P14.4: what is told is read; what is cut off, has something behind it, or is turned in one bit, is no code's, or that of which it is the only form.
func TestBytesBack(t *testing.T) {
	r := rand.New(rand.NewPCG(14, 3))
	for range 500 {
		f := chanceFast(r)
		b := written(f)
		wantBytes(t, "by chance", f, b...)
		for n := range b {
			wantWrong(t, "cut off", b[:n]...)
		}
		wantWrong(t, "a byte more", append(slices.Clone(b), byte(r.UintN(256)))...)
		for range 40 {
			c := slices.Clone(b)
			c[r.IntN(len(c))] ^= 1 << r.IntN(8)
			wantOnlyForm(t, c)
		}
	}
	// Short ones, among which many are of one.
	for range 100000 {
		b := make([]byte, r.IntN(16))
		for i := range b {
			b[i] = []byte{0, 0, 0, 1, 1, 2, 3, 128, 129, byte(r.UintN(256))}[r.IntN(10)]
		}
		wantOnlyForm(t, b)
	}
}

// scribble writes over all that f has, its spare room too.
func scribble(f api.Fast) {
	for _, frames := range f.Exits[:cap(f.Exits)] {
		for _, b := range frames[:cap(frames)] {
			for _, list := range [][]int{b.Vars[:cap(b.Vars)], b.Stack[:cap(b.Stack)]} {
				for i := range list {
					list[i] = 999
				}
			}
		}
		for i := range frames[:cap(frames)] {
			frames[:cap(frames)][i] = api.Back{Fn: 999}
		}
	}
	clear(f.Exits[:cap(f.Exits)])
	clear(f.Code[:cap(f.Code)])
	clear(f.Needs[:cap(f.Needs)])
}

// R3: what is handed in stays, with its spare room; what is handed out is new.
func TestBytesOwnMemory(t *testing.T) {
	f := roomy(full())
	was, room := toldAll(f), spare(f)
	one, e := ir.Bytes(f)
	two, g := ir.Bytes(f)
	clear(one[:cap(one)])
	if e != api.OK || g != api.OK || toldAll(f) != was || spare(f) != room || !slices.Equal(two, written(f)) {
		t.Error(e, g, f, two)
	}
	b := append(slices.Clone(two), 7, 7, 7)
	given := slices.Clone(b)
	x, e := ir.Read(b[:len(two)])
	y, g := ir.Read(b[:len(two)])
	scribble(x)
	if e != api.OK || g != api.OK || !slices.Equal(b, given) || toldAll(y) != was {
		t.Error(e, g, b, y)
	}
	clear(b)
	if toldAll(y) != was {
		t.Error(y)
	}
}

// R3: no two lists of an answer share memory, their spare room neither.
func TestReadListsApart(t *testing.T) {
	f, e := ir.Read(written(full()))
	if e != api.OK {
		t.Fatal(e)
	}
	// One behind the other gets as much as has room in it; none of that is to be seen in the others.
	var lists []*[]int
	for i := range f.Exits {
		for k := range f.Exits[i] {
			lists = append(lists, &f.Exits[i][k].Vars, &f.Exits[i][k].Stack)
		}
	}
	for i, list := range lists {
		all := (*list)[:cap(*list)]
		for k := range all {
			all[k] = 1000 + i
		}
	}
	for i, list := range lists {
		for _, n := range (*list)[:cap(*list)] {
			if n != 1000+i {
				t.Error(i, n)
			}
		}
	}
	for i, frames := range f.Exits {
		for k := range frames[:cap(frames)] {
			frames[:cap(frames)][k] = api.Back{Fn: 1000 + i}
		}
	}
	for i, frames := range f.Exits {
		for _, b := range frames {
			if b.Fn != 1000+i {
				t.Error(i, b)
			}
		}
	}
}
