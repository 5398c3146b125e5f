package bytes_test

import (
	"encoding/binary"
	"hash/crc32"
	"math"
	"math/rand/v2"
	"slices"
	"testing"

	"drover/api"
	"drover/bytes"
)

// manyNumbers are the edges of each length of a varint, each bit, and numbers of all lengths by chance (always the same).
func manyNumbers() []uint64 {
	ns := []uint64{math.MaxUint64, math.MaxInt64, math.MaxInt64 + 1}
	for n := range uint64(1 << 15) {
		ns = append(ns, n)
	}
	r := rand.New(rand.NewPCG(1, 2))
	for i := range 64 {
		p := uint64(1) << i
		ns = append(ns, p-1, p, p+1, -p)
		for range 100 {
			ns = append(ns, r.Uint64()>>i)
		}
	}
	return ns
}

// manyBytes are lists of all lengths up to 40, and a few longer ones.
func manyBytes() [][]byte {
	r := rand.New(rand.NewPCG(3, 4))
	var lists [][]byte
	for n := range 41 {
		lists = append(lists, make([]byte, n), chance(r, n))
	}
	for _, n := range []int{127, 128, 129, 255, 256, 16383, 16384, 1 << 16} {
		lists = append(lists, chance(r, n))
	}
	return lists
}

func chance(r *rand.Rand, n int) []byte {
	b := make([]byte, n)
	for i := range b {
		b[i] = byte(r.Uint32())
	}
	return b
}

// tens is so many bytes 128, and last behind them.
func tens(n int, last ...byte) []byte {
	return append(slices.Repeat([]byte{128}, n), last...)
}

func wantBytes(t *testing.T, what string, got []byte, want ...byte) {
	t.Helper()
	if !slices.Equal(got, want) {
		t.Errorf("%s: %v, not %v", what, got, want)
	}
}

// P1.1: the chapter's forms, byte by byte.

func TestUintExamples(t *testing.T) {
	for _, x := range []struct {
		n    uint64
		want []byte
	}{
		{0, []byte{0}},
		{1, []byte{1}},
		{127, []byte{127}},
		{128, []byte{128, 1}},
		{300, []byte{172, 2}},
		{1<<14 - 1, []byte{255, 127}},
		{1 << 14, []byte{128, 128, 1}},
		{1<<63 - 1, []byte{255, 255, 255, 255, 255, 255, 255, 255, 127}},
		{1 << 63, tens(9, 1)},
		{math.MaxUint64, []byte{255, 255, 255, 255, 255, 255, 255, 255, 255, 1}},
	} {
		wantBytes(t, "Uint", bytes.Uint(nil, x.n), x.want...)
	}
}

func TestIntExamples(t *testing.T) {
	for _, x := range []struct {
		n    int64
		want []byte
	}{
		{0, []byte{0}},
		{-1, []byte{1}},
		{1, []byte{2}},
		{-2, []byte{3}},
		{63, []byte{126}},
		{-64, []byte{127}},
		{64, []byte{128, 1}},
		{-65, []byte{129, 1}},
		{math.MaxInt64, []byte{254, 255, 255, 255, 255, 255, 255, 255, 255, 1}},
		{math.MinInt64, []byte{255, 255, 255, 255, 255, 255, 255, 255, 255, 1}},
	} {
		wantBytes(t, "Int", bytes.Int(nil, x.n), x.want...)
	}
}

func TestBlobExamples(t *testing.T) {
	wantBytes(t, "ab", bytes.Blob(nil, []byte("ab")), 2, 97, 98)
	wantBytes(t, "none", bytes.Blob(nil, nil), 0)
	wantBytes(t, "empty", bytes.Blob([]byte{}, []byte{}), 0)
	wantBytes(t, "127 bytes", bytes.Blob(nil, make([]byte, 127)), append([]byte{127}, make([]byte, 127)...)...)
	wantBytes(t, "128 bytes", bytes.Blob(nil, make([]byte, 128)), append([]byte{128, 1}, make([]byte, 128)...)...)
}

func TestPutAgainstLibrary(t *testing.T) {
	for _, n := range manyNumbers() {
		wantBytes(t, "Uint", bytes.Uint([]byte{7}, n), binary.AppendUvarint([]byte{7}, n)...)
		wantBytes(t, "Int", bytes.Int([]byte{7}, int64(n)), binary.AppendVarint([]byte{7}, int64(n))...)
	}
}

func TestPutStandsBehindOut(t *testing.T) {
	out := []byte{5, 0, 255}
	wantBytes(t, "Uint", bytes.Uint(out, 300), 5, 0, 255, 172, 2)
	wantBytes(t, "Int", bytes.Int(out, -1), 5, 0, 255, 1)
	wantBytes(t, "Blob", bytes.Blob(out, []byte{9}), 5, 0, 255, 1, 9)
	wantBytes(t, "Seal", bytes.Seal([]byte("123456789")), append([]byte("123456789"), 0xcb, 0xf4, 0x39, 0x26)...)
}

// slowSum is the sum as the chapter tells it, bit by bit.
func slowSum(b []byte) uint32 {
	c := uint32(math.MaxUint32)
	for _, x := range b {
		c ^= uint32(x)
		for range 8 {
			if c%2 == 1 {
				c = c/2 ^ 3988292384
			} else {
				c /= 2
			}
		}
	}
	return math.MaxUint32 - c
}

func TestCrc(t *testing.T) {
	if c := bytes.Crc([]byte("123456789")); c != 3421780262 {
		t.Error(c)
	}
	if c := bytes.Crc(nil); c != 0 {
		t.Error(c)
	}
	for _, b := range manyBytes() {
		c := bytes.Crc(b)
		if c != crc32.ChecksumIEEE(b) || c != slowSum(b) {
			t.Error(len(b), c)
		}
	}
}

func TestSeal(t *testing.T) {
	wantBytes(t, "none", bytes.Seal(nil), 0, 0, 0, 0)
	for _, b := range manyBytes() {
		wantBytes(t, "Seal", bytes.Seal(b), binary.BigEndian.AppendUint32(slices.Clone(b), crc32.ChecksumIEEE(b))...)
	}
}

// P1.2: numbers and blobs that are got.

func TestGetUint(t *testing.T) {
	for _, x := range []struct {
		b    []byte
		at   int
		n    uint64
		next int
		e    api.Errno
	}{
		{[]byte{0}, 0, 0, 1, api.OK},
		{[]byte{127}, 0, 127, 1, api.OK},
		{[]byte{172, 2, 9}, 0, 300, 2, api.OK},
		{[]byte{172, 2, 9}, 1, 2, 2, api.OK},
		{[]byte{172, 2, 9}, 2, 9, 3, api.OK},
		{[]byte{0, 0}, 1, 0, 2, api.OK},
		{[]byte{255, 255, 255, 255, 255, 255, 255, 255, 127}, 0, 1<<63 - 1, 9, api.OK},
		{tens(9, 1), 0, 1 << 63, 10, api.OK},
		{tens(9, 1, 0), 0, 1 << 63, 10, api.OK},
		{[]byte{255, 255, 255, 255, 255, 255, 255, 255, 255, 1}, 0, math.MaxUint64, 10, api.OK},
		{[]byte{1}, -1, 0, 0, api.ErrArg},
		{[]byte{1}, 2, 0, 0, api.ErrArg},
		{[]byte{1}, math.MinInt, 0, 0, api.ErrArg},
		{[]byte{1}, math.MaxInt, 0, 0, api.ErrArg},
		{nil, 1, 0, 0, api.ErrArg},
		{nil, 0, 0, 0, api.ErrShort},
		{[]byte{1}, 1, 0, 0, api.ErrShort},
		{[]byte{128}, 0, 0, 0, api.ErrShort},
		{tens(9), 0, 0, 0, api.ErrShort},
		{[]byte{128, 0}, 0, 0, 0, api.ErrBytes},
		{[]byte{129, 0}, 0, 0, 0, api.ErrBytes},
		{[]byte{128, 128, 0}, 0, 0, 0, api.ErrBytes},
		{tens(8, 0), 0, 0, 0, api.ErrBytes},
		{tens(9, 0), 0, 0, 0, api.ErrBytes},
		{tens(9, 2), 0, 0, 0, api.ErrBytes},
		{tens(9, 127), 0, 0, 0, api.ErrBytes},
		{tens(9, 128), 0, 0, 0, api.ErrBytes},
		{tens(9, 129), 0, 0, 0, api.ErrBytes},
		{tens(9, 255), 0, 0, 0, api.ErrBytes},
		{tens(11, 1), 0, 0, 0, api.ErrBytes},
	} {
		n, next, e := bytes.GetUint(x.b, x.at)
		if n != x.n || next != x.next || e != x.e {
			t.Error(x, n, next, e)
		}
	}
}

func TestGetInt(t *testing.T) {
	for _, x := range []struct {
		b    []byte
		at   int
		n    int64
		next int
		e    api.Errno
	}{
		{[]byte{0}, 0, 0, 1, api.OK},
		{[]byte{1}, 0, -1, 1, api.OK},
		{[]byte{2}, 0, 1, 1, api.OK},
		{[]byte{9, 127, 9}, 1, -64, 2, api.OK},
		{[]byte{255, 255, 255, 255, 255, 255, 255, 255, 255, 1}, 0, math.MinInt64, 10, api.OK},
		{[]byte{254, 255, 255, 255, 255, 255, 255, 255, 255, 1}, 0, math.MaxInt64, 10, api.OK},
		{[]byte{1}, -1, 0, 0, api.ErrArg},
		{[]byte{1}, 2, 0, 0, api.ErrArg},
		{[]byte{1}, 1, 0, 0, api.ErrShort},
		{[]byte{129}, 0, 0, 0, api.ErrShort},
		{[]byte{129, 0}, 0, 0, 0, api.ErrBytes},
		{tens(9, 2), 0, 0, 0, api.ErrBytes},
	} {
		n, next, e := bytes.GetInt(x.b, x.at)
		if n != x.n || next != x.next || e != x.e {
			t.Error(x, n, next, e)
		}
	}
}

func TestGetBlob(t *testing.T) {
	huge := bytes.Uint(nil, math.MaxUint64)
	for _, x := range []struct {
		b        []byte
		at, most int
		want     string
		next     int
		e        api.Errno
	}{
		{[]byte{2, 97, 98}, 0, 2, "ab", 3, api.OK},
		{[]byte{2, 97, 98, 99}, 0, math.MaxInt, "ab", 3, api.OK},
		{[]byte{7, 1, 97}, 1, 1, "a", 3, api.OK},
		{[]byte{0}, 0, 0, "", 1, api.OK},
		{[]byte{0, 1}, 0, 5, "", 1, api.OK},
		{[]byte{1, 97}, -1, 9, "", 0, api.ErrArg},
		{[]byte{1, 97}, 3, 9, "", 0, api.ErrArg},
		{[]byte{1, 97}, -1, -1, "", 0, api.ErrArg},
		{nil, 0, 9, "", 0, api.ErrShort},
		{nil, 0, -1, "", 0, api.ErrShort},
		{[]byte{128}, 0, 9, "", 0, api.ErrShort},
		{[]byte{129, 0, 97}, 0, 9, "", 0, api.ErrBytes},
		{[]byte{129, 0, 97}, 0, 0, "", 0, api.ErrBytes},
		{[]byte{2, 97, 98}, 0, 1, "", 0, api.ErrLong},
		{[]byte{2, 97}, 0, 1, "", 0, api.ErrLong},
		{[]byte{0}, 0, -1, "", 0, api.ErrLong},
		{[]byte{0}, 0, math.MinInt, "", 0, api.ErrLong},
		{huge, 0, math.MaxInt, "", 0, api.ErrLong},
		{bytes.Uint(nil, 1<<63), 0, math.MaxInt, "", 0, api.ErrLong},
		{bytes.Uint(nil, 1<<63-1), 0, math.MaxInt, "", 0, api.ErrShort},
		{[]byte{2, 97}, 0, 2, "", 0, api.ErrShort},
		{[]byte{1}, 0, 1, "", 0, api.ErrShort},
	} {
		b, next, e := bytes.GetBlob(x.b, x.at, x.most)
		if string(b) != x.want || next != x.next || e != x.e || e != api.OK && b != nil {
			t.Error(x, b, next, e)
		}
	}
}

// slowUint is GetUint's answer by the library's reader: that takes longer forms of a number too, which are sorted out by their size.
func slowUint(b []byte) (uint64, int, api.Errno) {
	n, size := binary.Uvarint(b)
	switch {
	case size < 0 || size == 0 && len(b) >= 10:
		return 0, 0, api.ErrBytes
	case size == 0:
		return 0, 0, api.ErrShort
	case size != len(binary.AppendUvarint(nil, n)):
		return 0, 0, api.ErrBytes
	}
	return n, size, api.OK
}

func TestGetUintAgainstLibrary(t *testing.T) {
	r := rand.New(rand.NewPCG(5, 6))
	hard := []byte{0, 1, 2, 127, 128, 129, 255}
	for range 200000 {
		b := make([]byte, r.IntN(13))
		for i := range b {
			b[i] = hard[r.IntN(len(hard))]
			if r.IntN(4) > 0 { // else few would be long
				b[i] |= 128
			}
		}
		n, next, e := bytes.GetUint(b, 0)
		if wn, wnext, we := slowUint(b); n != wn || next != wnext || e != we {
			t.Fatal(b, n, next, e, wn, wnext, we)
		}
	}
}

// P1.3: what is sealed, and what is not.

func TestUnseal(t *testing.T) {
	for _, b := range manyBytes() {
		if got, e := bytes.Unseal(bytes.Seal(b)); !slices.Equal(got, b) || e != api.OK {
			t.Error(b, got, e)
		}
	}
	for _, x := range []struct {
		b []byte
		e api.Errno
	}{
		{nil, api.ErrShort},
		{[]byte{0}, api.ErrShort},
		{[]byte{0, 0, 0}, api.ErrShort},
		{[]byte{0, 0, 0, 1}, api.ErrSum},
		{[]byte{1, 0, 0, 0}, api.ErrSum},
		{[]byte{0, 0, 0, 0, 0}, api.ErrSum},
		{append([]byte("123456789"), 0x26, 0x39, 0xf4, 0xcb), api.ErrSum},
		{append([]byte("123456788"), 0xcb, 0xf4, 0x39, 0x26), api.ErrSum},
		{append([]byte("12345678"), 0xcb, 0xf4, 0x39, 0x26), api.ErrSum},
	} {
		if got, e := bytes.Unseal(x.b); got != nil || e != x.e {
			t.Error(x, got, e)
		}
	}
	if got, e := bytes.Unseal([]byte{0, 0, 0, 0}); len(got) != 0 || e != api.OK {
		t.Error(got, e)
	}
}

// P1.4: what is put is got; one form; a sealed byte that is another one.

func TestPutIsGot(t *testing.T) {
	for _, n := range manyNumbers() {
		b := bytes.Uint([]byte{128, 255}, n)
		if got, next, e := bytes.GetUint(append(b, 128), 2); got != n || next != len(b) || e != api.OK {
			t.Error(n, got, next, e)
		}
		b = bytes.Int([]byte{128, 255}, int64(n))
		if got, next, e := bytes.GetInt(append(b, 128), 2); got != int64(n) || next != len(b) || e != api.OK {
			t.Error(int64(n), got, next, e)
		}
	}
	for _, x := range manyBytes() {
		b := bytes.Blob([]byte{128, 255}, x)
		if got, next, e := bytes.GetBlob(append(b, 128), 2, len(x)); !slices.Equal(got, x) || next != len(b) || e != api.OK {
			t.Error(x, got, next, e)
		}
	}
}

func TestPutInARow(t *testing.T) {
	b := bytes.Int(bytes.Blob(bytes.Uint(nil, 300), []byte("ab")), -300)
	n, at, e := bytes.GetUint(b, 0)
	if n != 300 || e != api.OK {
		t.Error(n, at, e)
	}
	s, at, e := bytes.GetBlob(b, at, 2)
	if string(s) != "ab" || e != api.OK {
		t.Error(s, at, e)
	}
	m, at, e := bytes.GetInt(b, at)
	if m != -300 || at != len(b) || e != api.OK {
		t.Error(m, at, e)
	}
}

func TestOneForm(t *testing.T) {
	forms := 0
	for size := 1; size <= 3; size++ {
		b := make([]byte, size)
		for i := range 1 << (8 * size) {
			for k := range b {
				b[k] = byte(i >> (8 * k))
			}
			n, next, e := bytes.GetUint(b, 0)
			if e != api.OK || next != size {
				continue
			}
			forms++
			m, _, _ := bytes.GetInt(b, 0)
			if !slices.Equal(bytes.Uint(nil, n), b) || !slices.Equal(bytes.Int(nil, m), b) {
				t.Fatal(b, n, m)
			}
		}
	}
	if forms != 1<<21 {
		t.Error("varints of at most three bytes:", forms)
	}
}

func TestSealedByteThatIsAnother(t *testing.T) {
	for _, b := range manyBytes()[:50] {
		s := bytes.Seal(b)
		for i := range s {
			for x := 1; x < 256; x++ {
				s[i] ^= byte(x)
				if got, e := bytes.Unseal(s); got != nil || e != api.ErrSum {
					t.Fatal(b, i, x, got, e)
				}
				s[i] ^= byte(x)
			}
		}
	}
}

// R3: nothing that is handed in is changed or kept, and what is handed out is new.

func TestOutAndItsSpareRoomStay(t *testing.T) {
	for _, put := range []func(out []byte) []byte{
		func(out []byte) []byte { return bytes.Uint(out, 300) },
		func(out []byte) []byte { return bytes.Int(out, 300) },
		func(out []byte) []byte { return bytes.Blob(out, []byte("abc")) },
		func(out []byte) []byte { return bytes.Seal(out) },
	} {
		room := slices.Repeat([]byte{77}, 64)
		got := put(room[:3])
		for i := range room {
			if room[i] != 77 {
				t.Error("changed", i, room)
			}
			room[i] = 78
		}
		wantBytes(t, "kept", got[:3], 77, 77, 77)
	}
}

func TestTwoPutsBehindOneOut(t *testing.T) {
	out := bytes.Uint(nil, 1)
	a, b := bytes.Uint(out, 2), bytes.Uint(out, 3)
	wantBytes(t, "first", a, 1, 2)
	wantBytes(t, "second", b, 1, 3)
}

func TestBlobOfTheSpareRoom(t *testing.T) {
	room := []byte{1, 97, 98, 99}
	wantBytes(t, "Blob", bytes.Blob(room[:1], room[1:]), 1, 3, 97, 98, 99)
	wantBytes(t, "room", room, 1, 97, 98, 99)
}

func TestGotIsNew(t *testing.T) {
	b := bytes.Blob(nil, []byte("abc"))
	got, _, _ := bytes.GetBlob(b, 0, 3)
	clear(b)
	wantBytes(t, "GetBlob", got, []byte("abc")...)
	b = []byte{3, 97, 98, 99, 100}
	got, _, _ = bytes.GetBlob(b, 0, 3)
	clear(got[:cap(got)])
	wantBytes(t, "Blob", b, 3, 97, 98, 99, 100)

	s := bytes.Seal([]byte("abc"))
	was := slices.Clone(s)
	got, _ = bytes.Unseal(s)
	clear(got[:cap(got)])
	wantBytes(t, "Seal", s, was...)
	got, _ = bytes.Unseal(s)
	clear(s)
	wantBytes(t, "Unseal", got, []byte("abc")...)
}
