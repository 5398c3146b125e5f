package profile_test

import (
	"encoding/binary"
	"math"
	"math/rand/v2"
	"slices"
	"strings"
	"testing"

	"drover/api"
	"drover/profile"
)

// wantBytes wants that of Bytes, and that Read tells the same profile again.
func wantBytes(t *testing.T, what string, p api.Profile, want ...byte) {
	t.Helper()
	b, e := profile.Bytes(p)
	if e != api.OK || !slices.Equal(b, want) {
		t.Errorf("%s: %v %d, not %v", what, b, e, want)
		return
	}
	r, e := profile.Read(b)
	if e != api.OK {
		t.Errorf("%s: Read: %d", what, e)
	}
	wantTold(t, what+", read", r, told(p))
}

// P13.3: the form, byte by byte.
func TestBytes(t *testing.T) {
	wantBytes(t, "no function", fns(), 0)
	wantBytes(t, "an empty list", api.Profile{Fns: []api.Seen{}}, 0)
	wantBytes(t, "nothing seen", fns(seen(0)), 1, 0, 0)
	wantBytes(t, "the counter", fns(seen(1, 0, 0, 2, 0, 2, 2, 2, 0, 0, 0)), 1, 1, 5, 0, 0, 2, 0, 2, 2, 2, 0, 0, 0)
	wantBytes(t, "top ahead of below", fns(seen(5, 8, 16)), 1, 5, 1, 8, 16)
	wantBytes(t, "two functions", fns(seen(7, 1, 2), seen(300, 4, 8, 16, 32)), 2, 7, 1, 1, 2, 172, 2, 2, 4, 8, 16, 32)
	wantBytes(t, "all bits", fns(seen(127, 127, 128, 255, 64)), 1, 127, 2, 127, 128, 1, 255, 1, 64)
	wantBytes(t, "2^40", fns(seen(mostCalls), seen(mostCalls-1)), 2, 128, 128, 128, 128, 128, 32, 0, 255, 255, 255, 255, 255, 31, 0)
	wantBytes(t, "128 functions", api.Profile{Fns: make([]api.Seen, 128)}, append([]byte{128, 1}, make([]byte, 256)...)...)
	wantBytes(t, "128 instructions", fns(api.Seen{Tops: make([][2]uint8, 128)}), append([]byte{1, 0, 128, 1}, make([]byte, 256)...)...)
}

// wantNoBytes wants that Bytes refuses p.
func wantNoBytes(t *testing.T, what string, p api.Profile) {
	t.Helper()
	if b, e := profile.Bytes(p); e != api.ErrProfile || len(b) > 0 {
		t.Errorf("%s: %d bytes, %d", what, len(b), e)
	}
}

// P13.3: each limit, on both sides.
func TestBytesLimits(t *testing.T) {
	wantBytes(t, "2^12 functions", api.Profile{Fns: make([]api.Seen, mostFns)}, append([]byte{128, 32}, make([]byte, 2*mostFns)...)...)
	wantNoBytes(t, "a function more", api.Profile{Fns: make([]api.Seen, mostFns+1)})
	wantBytes(t, "2^14 instructions", fns(api.Seen{Tops: make([][2]uint8, mostCode)}), append([]byte{1, 0, 128, 128, 1}, make([]byte, 2*mostCode)...)...)
	wantNoBytes(t, "an instruction more", fns(api.Seen{Tops: make([][2]uint8, mostCode+1)}))
	wantNoBytes(t, "an instruction more in the last one", fns(seen(0), seen(1), api.Seen{Tops: make([][2]uint8, mostCode+1)}))
	for _, calls := range []int{-1, math.MinInt, mostCalls + 1, math.MaxInt} {
		wantNoBytes(t, "Calls", fns(seen(calls)))
		wantNoBytes(t, "Calls of the last one", fns(seen(1), seen(calls)))
		wantNoBytes(t, "Calls of the first one", fns(seen(calls), seen(1)))
	}
}

// wantWrong wants that Read refuses b.
func wantWrong(t *testing.T, what string, b ...byte) {
	t.Helper()
	if p, e := profile.Read(b); e != api.ErrProfile || len(p.Fns) > 0 {
		t.Errorf("%s: %s %d", what, told(p), e)
	}
}

// P13.3: what is no profile's.
func TestReadWrong(t *testing.T) {
	wantWrong(t, "nothing")
	wantWrong(t, "no function that is told", 1)
	wantWrong(t, "Calls alone", 1, 0)
	wantWrong(t, "instructions are wanting", 1, 0, 1)
	wantWrong(t, "a set is wanting", 1, 0, 1, 5)
	wantWrong(t, "an instruction is wanting", 1, 0, 2, 5, 5)
	wantWrong(t, "a function is wanting", 2, 0, 1, 5, 5)
	wantWrong(t, "something behind it", 0, 0)
	wantWrong(t, "a function behind it", 1, 0, 0, 0, 0)
	wantWrong(t, "a longer form", 128, 0)
	wantWrong(t, "a longer form of Calls", 1, 129, 0, 0)
	wantWrong(t, "a longer form of a count", 1, 0, 129, 0, 2, 2)
	wantWrong(t, "a longer form of the top", 1, 0, 1, 130, 0, 2)
	wantWrong(t, "a longer form of the one below", 1, 0, 1, 2, 130, 0)
	wantWrong(t, "a set of 256 on top", 1, 0, 1, 128, 2, 2)
	wantWrong(t, "a set of 256 below", 1, 0, 1, 2, 128, 2)
	wantWrong(t, "2^40 + 1 Calls", 1, 129, 128, 128, 128, 128, 32, 0)
	wantWrong(t, "2^63 Calls", 1, 128, 128, 128, 128, 128, 128, 128, 128, 128, 1, 0)
	wantWrong(t, "2^64 - 1 Calls", 1, 255, 255, 255, 255, 255, 255, 255, 255, 255, 1, 0)
	wantWrong(t, "2^64 - 1 functions", 255, 255, 255, 255, 255, 255, 255, 255, 255, 1)
	wantWrong(t, "2^64 - 1 instructions", 1, 0, 255, 255, 255, 255, 255, 255, 255, 255, 255, 1)
	wantWrong(t, "2^64", 128, 128, 128, 128, 128, 128, 128, 128, 128, 2)
	wantWrong(t, "a number without end", slices.Repeat([]byte{128}, 30)...)
	wantWrong(t, "2^12 + 1 functions", append([]byte{129, 32}, make([]byte, 2*mostFns+2)...)...)
	wantWrong(t, "2^14 + 1 instructions", append([]byte{1, 0, 129, 128, 1}, make([]byte, 2*mostCode+2)...)...)
}

// manyProfiles are some by chance (always the same), all of which may be told.
func manyProfiles(r *rand.Rand, n int) []api.Profile {
	all := make([]api.Profile, n)
	for i := range all {
		for range r.IntN(5) {
			f := api.Seen{Calls: int(r.Uint64N(mostCalls+1) >> r.IntN(41))}
			for range []int{0, 1, 2, 5, 130}[r.IntN(5)] {
				f.Tops = append(f.Tops, [2]uint8{uint8(r.UintN(256)), uint8(1 << r.IntN(8))})
			}
			all[i].Fns = append(all[i].Fns, f)
		}
	}
	return all
}

// written is p's bytes, by the library's own numbers.
func written(p api.Profile) []byte {
	b := binary.AppendUvarint(nil, uint64(len(p.Fns)))
	for _, f := range p.Fns {
		b = binary.AppendUvarint(b, uint64(f.Calls))
		b = binary.AppendUvarint(b, uint64(len(f.Tops)))
		for _, sets := range f.Tops {
			b = binary.AppendUvarint(binary.AppendUvarint(b, uint64(sets[0])), uint64(sets[1]))
		}
	}
	return b
}

// P13.4: what is told is read; what is cut off, has something behind it, or is turned in one bit, is no profile's, or that of which it is the only form.
func TestBytesBack(t *testing.T) {
	r := rand.New(rand.NewPCG(13, 1))
	for _, p := range manyProfiles(r, 300) {
		b := written(p)
		wantBytes(t, "by chance", p, b...)
		for n := range b {
			wantWrong(t, "cut off", b[:n]...)
		}
		wantWrong(t, "a byte more", append(slices.Clone(b), byte(r.UintN(256)))...)
		for range 40 {
			c := slices.Clone(b)
			c[r.IntN(len(c))] ^= 1 << r.IntN(8)
			wantOnlyForm(t, c)
		}
	}
	// Short ones, among which many are of one.
	for range 100000 {
		b := make([]byte, r.IntN(9))
		for i := range b {
			b[i] = []byte{0, 1, 1, 2, 3, 128, 129, byte(r.UintN(256))}[r.IntN(8)]
		}
		wantOnlyForm(t, b)
	}
}

// wantOnlyForm wants that b, if it is read, is what is told of that, else no error but one and nothing beside it.
func wantOnlyForm(t *testing.T, b []byte) {
	t.Helper()
	p, e := profile.Read(b)
	if e != api.OK {
		wantWrong(t, "by chance", b...)
	} else if c, e := profile.Bytes(p); e != api.OK || !slices.Equal(b, c) || !slices.Equal(b, written(p)) {
		t.Errorf("%v was read as %s, of which %v %d is told", b, told(p), c, e)
	}
}

// R3: what is handed in stays, with its spare room; what is handed out is new.
func TestBytesOwnMemory(t *testing.T) {
	p := roomy(fns(seen(1, 2, 2), seen(300, 4, 4, 255, 255)))
	ahead, behind := told(p), room(p)
	one, e := profile.Bytes(p)
	two, f := profile.Bytes(p)
	clear(one[:cap(one)])
	if e != api.OK || f != api.OK || told(p) != ahead || room(p) != behind || !slices.Equal(two, written(p)) {
		t.Error(e, f, told(p), two)
	}
	b := append(slices.Clone(two), 7, 7, 7)
	given := strings.Clone(string(b))
	x, e := profile.Read(b[:len(two)])
	y, f := profile.Read(b[:len(two)])
	wantOwn(t, "Read", x, y)
	x.Fns[0].Tops[0], x.Fns[1].Tops[0] = [2]uint8{9, 9}, [2]uint8{9, 9}
	if e != api.OK || f != api.OK || string(b) != given || told(y) != ahead {
		t.Error(e, f, b, told(y))
	}
	clear(b)
	wantTold(t, "Read", y, ahead)
}
