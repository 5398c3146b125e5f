package frame_test

import (
	"encoding/binary"
	"fmt"
	"hash/crc32"
	"math"
	"math/rand/v2"
	"reflect"
	"slices"
	"strings"
	"testing"

	"drover/api"
	"drover/bytes"
	"drover/frame"
	"drover/value"
)

const mostNumber = 1 << 62 // of a packet's numbers

func number(n int64) api.Value       { return api.Value{Kind: api.VInt, N: n} }
func text(s string) api.Value        { return api.Value{Kind: api.VBytes, S: s} }
func tuple(l ...api.Value) api.Value { return api.Value{Kind: api.VTuple, L: l} }

// join is one behind the other of these lists.
func join(lists ...[]byte) []byte { return slices.Concat(lists...) }

// zeros are so many bytes 0.
func zeros(n int) []byte { return make([]byte, n) }

// seal is b and its sum, by the library.
func seal(b ...byte) []byte {
	return binary.BigEndian.AppendUint32(slices.Clone(b), crc32.ChecksumIEEE(b))
}

// brief is v as far as it is of use in a test's answer.
func brief(v any) string {
	s := fmt.Sprint(v)
	return s[:min(len(s), 200)]
}

// alike tells whether a and b are one message, field by field.
func alike(a, b api.Msg) bool {
	return a.Kind == b.Kind && slices.Equal(a.Nums, b.Nums) && slices.EqualFunc(a.Vals, b.Vals, value.Same) && slices.EqualFunc(a.Blobs, b.Blobs, slices.Equal)
}

// alikePackets tells whether a and b are one packet.
func alikePackets(a, b api.Packet) bool {
	return a.From == b.From && a.Life == b.Life && a.Seq == b.Seq && a.Ack == b.Ack && slices.Equal(a.Data, b.Data)
}

// lastBlob is a message of 16 blobs, all but the last one full, and that of so many bytes: all in all 983096 bytes and it.
func lastBlob(n int) api.Msg {
	blobs := slices.Repeat([][]byte{zeros(api.MaxBlob)}, 15)
	return api.Msg{Blobs: append(blobs, zeros(n))}
}

// longVals is a message of so many bytes by its values, of which none is at a limit of its own: two tuples, and a text that fills the rest.
func longVals(size int) api.Msg {
	first := tuple(slices.Repeat([]api.Value{text(strings.Repeat("v", 4096))}, 250)...) // 3 bytes and 250 times 4099
	second := tuple(slices.Repeat([]api.Value{text(strings.Repeat("w", 1000))}, 20)...) // 2 bytes and 20 times 1003
	rest := size - 4 - 4 - 1024753 - 20062 - 3                                          // kind and counts, the sum, both tuples, the text's head
	return api.Msg{Vals: []api.Value{first, second, text(strings.Repeat("x", rest))}}
}

// rightOnes are right messages at all edges that the chapter names.
func rightOnes() []api.Msg {
	every := make([]byte, 256)
	for i := range every {
		every[i] = byte(i)
	}
	return []api.Msg{
		{}, {Kind: 1}, {Kind: 7}, {Kind: 255}, {Nums: []int64{}, Vals: []api.Value{}, Blobs: [][]byte{}},
		{Kind: 7, Nums: []int64{1, -1}}, {Nums: []int64{0}}, {Nums: []int64{math.MinInt64, math.MaxInt64}},
		{Nums: slices.Repeat([]int64{math.MinInt64}, 63)}, {Nums: slices.Repeat([]int64{math.MinInt64}, 64)},
		{Vals: []api.Value{number(1)}}, {Vals: []api.Value{tuple(), text(""), {Kind: api.VBool, N: 1}, {Kind: api.VActor, N: 3}, tuple(text("a"), tuple(number(2)))}},
		{Vals: slices.Repeat([]api.Value{number(-3)}, 64)}, {Vals: slices.Repeat([]api.Value{tuple(slices.Repeat([]api.Value{number(1)}, 255)...)}, 64)},
		{Blobs: [][]byte{nil}}, {Blobs: [][]byte{{}, {0}, {1, 2}, nil}}, {Blobs: [][]byte{every}},
		{Blobs: [][]byte{zeros(api.MaxBlob - 1)}}, {Blobs: [][]byte{zeros(api.MaxBlob)}}, {Blobs: slices.Repeat([][]byte{{7}}, 16)},
		{Kind: 3, Nums: slices.Repeat([]int64{5}, 64), Vals: slices.Repeat([]api.Value{text("ab")}, 64), Blobs: slices.Repeat([][]byte{every}, 16)},
		{Blobs: slices.Repeat([][]byte{zeros(api.MaxBlob)}, 15)},
		lastBlob(65479), lastBlob(65480), longVals(api.MaxPacket - 1), longVals(api.MaxPacket),
	}
}

// wrongOnes are messages that are right but for one thing.
func wrongOnes() []api.Msg {
	full := text(strings.Repeat("x", api.MaxBytes))
	huge := tuple(slices.Repeat([]api.Value{full}, 255)...) // right itself, of 1045248 bytes
	nums := longVals(api.MaxPacket)
	nums.Nums = []int64{0}
	blobs := longVals(api.MaxPacket)
	blobs.Blobs = [][]byte{{}}
	round := []api.Value{{Kind: api.VTuple}, {Kind: api.VTuple}}
	round[0].L, round[1].L = round, round
	wrong := []api.Msg{
		{Nums: make([]int64, 65)}, {Nums: make([]int64, 128)}, {Nums: make([]int64, 1000)},
		{Vals: slices.Repeat([]api.Value{number(1)}, 65)}, {Vals: slices.Repeat([]api.Value{number(1)}, 300)},
		{Blobs: make([][]byte, 17)}, {Blobs: make([][]byte, 200)},
		{Blobs: [][]byte{zeros(api.MaxBlob + 1)}}, {Blobs: append(make([][]byte, 15), zeros(api.MaxBlob+1))}, {Blobs: [][]byte{zeros(api.MaxPacket)}},
		{Blobs: slices.Repeat([][]byte{zeros(api.MaxBlob)}, 16)}, lastBlob(65481), lastBlob(65482),
		longVals(api.MaxPacket + 1), longVals(api.MaxPacket + 2), longVals(api.MaxPacket + 4), longVals(api.MaxPacket + 5), nums, blobs,
		{Vals: []api.Value{huge, full}}, {Vals: slices.Repeat([]api.Value{huge}, 64)}, {Vals: round},
	}
	for _, v := range []api.Value{{}, {Kind: 6}, {Kind: api.VBool, N: 2}, {Kind: api.VActor, N: -1}, {Kind: api.VInt, S: "a"}, text(full.S + "x"), tuple(slices.Repeat([]api.Value{number(1)}, 256)...), tuple(api.Value{})} {
		wrong = append(wrong, api.Msg{Vals: []api.Value{v}}, api.Msg{Kind: 1, Vals: []api.Value{number(1), v, number(2)}}, api.Msg{Vals: append(slices.Repeat([]api.Value{number(1)}, 63), v)})
	}
	return wrong
}

// chanceVal is a right value of at most so many levels, by chance.
func chanceVal(r *rand.Rand, levels int) api.Value {
	switch r.IntN(6) {
	case 0:
		return number(int64(r.Uint64()) >> r.IntN(64))
	case 1:
		return api.Value{Kind: api.VBool, N: r.Int64N(2)}
	case 2:
		return text(string(chanceBytes(r, r.IntN(6))))
	case 3:
		return api.Value{Kind: api.VActor, N: int64(r.Uint64()>>1) >> r.IntN(63)}
	}
	v := tuple()
	for range min(levels, r.IntN(4)) {
		v.L = append(v.L, chanceVal(r, levels-1))
	}
	return v
}

func chanceBytes(r *rand.Rand, n int) []byte {
	b := make([]byte, n)
	for i := range b {
		b[i] = byte(r.Uint32())
	}
	return b
}

// manyByChance are so many right messages, by chance (always the same).
func manyByChance(n int) []api.Msg {
	r := rand.New(rand.NewPCG(1, 2))
	ms := make([]api.Msg, n)
	for i := range ms {
		m := api.Msg{Kind: uint8(r.Uint32())}
		for range r.IntN(1 + r.IntN(65)) {
			m.Nums = append(m.Nums, int64(r.Uint64())>>r.IntN(64))
		}
		for range r.IntN(1 + r.IntN(65)) {
			m.Vals = append(m.Vals, chanceVal(r, 3))
		}
		for range r.IntN(1 + r.IntN(17)) {
			m.Blobs = append(m.Blobs, chanceBytes(r, r.IntN(300)))
		}
		ms[i] = m
	}
	return ms
}

// packetsByChance are so many right packets, by chance (always the same).
func packetsByChance(n int) []api.Packet {
	r := rand.New(rand.NewPCG(3, 4))
	number := func() int { return int(r.Uint64()>>1) >> (1 + r.IntN(62)) }
	ps := make([]api.Packet, n)
	for i := range ps {
		ps[i] = api.Packet{From: number(), Life: number(), Seq: number(), Ack: number()}
		if ps[i].Seq > 0 {
			ps[i].Data = chanceBytes(r, r.IntN(200))
		}
	}
	return ps
}

// slowPut is a right message's bytes, as the chapter tells them.
func slowPut(m api.Msg) []byte {
	b := []byte{m.Kind, byte(len(m.Nums))}
	for _, n := range m.Nums {
		b = binary.AppendVarint(b, n)
	}
	b = append(b, byte(len(m.Vals)))
	for _, v := range m.Vals {
		one, _ := value.Put(nil, v)
		b = append(b, one...)
	}
	b = append(b, byte(len(m.Blobs)))
	for _, blob := range m.Blobs {
		b = append(binary.AppendUvarint(b, uint64(len(blob))), blob...)
	}
	return seal(b...)
}

// slowPack is a right packet's bytes, as the chapter tells them.
func slowPack(p api.Packet) []byte {
	var b []byte
	for _, n := range []int{p.From, p.Life, p.Seq, p.Ack, len(p.Data)} {
		b = binary.AppendUvarint(b, uint64(n))
	}
	return seal(append(b, p.Data...)...)
}

// slowGet is Get's error for bytes ahead of their sum, told in another way: each step takes what it is for from the bytes that are left.
func slowGet(b []byte) api.Errno {
	if len(b) == 0 {
		return api.ErrShort
	}
	b = b[1:]
	for part, most := range []uint64{64, 64, 16} {
		n, next, e := bytes.GetUint(b, 0)
		if e == api.OK && n > most {
			e = api.ErrMessage
		}
		for b = b[next:]; e == api.OK && n > 0; n-- {
			switch part {
			case 0:
				_, next, e = bytes.GetInt(b, 0)
			case 1:
				_, next, e = value.Get(b, 0)
			case 2:
				_, next, e = bytes.GetBlob(b, 0, 65536)
			}
			b = b[next:]
		}
		if e != api.OK {
			return e
		}
	}
	if len(b) > 0 {
		return api.ErrBytes
	}
	return api.OK
}

// slowUnpack is Unpack's error for bytes ahead of their sum, likewise.
func slowUnpack(b []byte) api.Errno {
	var seq uint64
	for i := range 4 {
		n, next, e := bytes.GetUint(b, 0)
		if e != api.OK {
			return e
		}
		if n > mostNumber {
			return api.ErrMessage
		}
		if i == 2 {
			seq = n
		}
		b = b[next:]
	}
	data, next, e := bytes.GetBlob(b, 0, 1048576)
	switch {
	case e != api.OK:
		return e
	case seq == 0 && len(data) > 0:
		return api.ErrMessage
	case next < len(b):
		return api.ErrBytes
	}
	return api.OK
}

// P3.1: right messages and packets, and what is put.

func TestRight(t *testing.T) {
	for i, m := range rightOnes() {
		if !frame.Right(m) {
			t.Error(i, brief(m))
		}
	}
	for i, m := range wrongOnes() {
		if frame.Right(m) {
			t.Error("wrong one", i)
		}
	}
	for _, m := range manyByChance(500) {
		if !frame.Right(m) {
			t.Error(brief(m))
		}
	}
	for k := range 256 {
		if !frame.Right(api.Msg{Kind: uint8(k)}) {
			t.Error(k)
		}
	}
}

func TestPut(t *testing.T) {
	for _, x := range []struct {
		m    api.Msg
		want []byte
	}{
		{api.Msg{}, seal(0, 0, 0, 0)},
		{api.Msg{Kind: 7}, seal(7, 0, 0, 0)},
		{api.Msg{Kind: 255}, seal(255, 0, 0, 0)},
		{api.Msg{Kind: 7, Nums: []int64{1, -1}}, seal(7, 2, 2, 1, 0, 0)},
		{api.Msg{Nums: []int64{150, math.MinInt64}}, seal(0, 2, 172, 2, 255, 255, 255, 255, 255, 255, 255, 255, 255, 1, 0, 0)},
		{api.Msg{Nums: make([]int64, 64)}, seal(join([]byte{0, 64}, zeros(64), []byte{0, 0})...)},
		{api.Msg{Kind: 1, Vals: []api.Value{number(-1), text("ab"), tuple(tuple())}}, seal(1, 0, 3, 1, 1, 3, 2, 97, 98, 4, 1, 4, 0, 0)},
		{api.Msg{Vals: slices.Repeat([]api.Value{tuple()}, 64)}, seal(join([]byte{0, 0, 64}, slices.Repeat([]byte{4, 0}, 64), []byte{0})...)},
		{api.Msg{Kind: 2, Blobs: [][]byte{[]byte("ab"), nil, {9}}}, seal(2, 0, 0, 3, 2, 97, 98, 0, 1, 9)},
		{api.Msg{Blobs: [][]byte{zeros(128)}}, seal(join([]byte{0, 0, 0, 1, 128, 1}, zeros(128))...)},
		{api.Msg{Blobs: [][]byte{zeros(65536)}}, seal(join([]byte{0, 0, 0, 1, 128, 128, 4}, zeros(65536))...)},
		{api.Msg{Blobs: make([][]byte, 16)}, seal(join([]byte{0, 0, 0, 16}, zeros(16))...)},
		{api.Msg{Kind: 5, Nums: []int64{3}, Vals: []api.Value{number(4)}, Blobs: [][]byte{{5}}}, seal(5, 1, 6, 1, 1, 8, 1, 1, 5)},
	} {
		b, e := frame.Put(x.m)
		if e != api.OK || !slices.Equal(b, x.want) {
			t.Error(brief(x.m), brief(b), e)
		}
	}
	for _, m := range append(rightOnes(), manyByChance(500)...) {
		b, e := frame.Put(m)
		if e != api.OK || !slices.Equal(b, slowPut(m)) {
			t.Error(brief(m), brief(b), e)
		}
	}
}

func TestPutOfWrongOnes(t *testing.T) {
	// One of these is within itself, so that it can't be printed: its place must do.
	for i, m := range wrongOnes() {
		if b, e := frame.Put(m); b != nil || e != api.ErrMessage {
			t.Error(i, brief(b), e)
		}
	}
}

// The limit is one of the bytes with their sum.
func TestLongestMessages(t *testing.T) {
	for _, m := range []api.Msg{lastBlob(65480), longVals(api.MaxPacket)} {
		b, e := frame.Put(m)
		if e != api.OK || len(b) != api.MaxPacket {
			t.Error(len(b), e)
		}
		if got, e := frame.Get(b); e != api.OK || !alike(got, m) {
			t.Error(e)
		}
	}
}

// rightPackets are right packets at all edges that the chapter names.
func rightPackets() []api.Packet {
	all := api.Packet{From: mostNumber, Life: mostNumber, Seq: mostNumber, Ack: mostNumber}
	full := all
	full.Data = zeros(api.MaxPacket)
	return []api.Packet{
		{}, {Data: []byte{}}, {From: 1}, {Life: 1}, {Seq: 1}, {Ack: 1}, {Seq: 1, Data: []byte{}}, {Seq: 1, Data: []byte{0}},
		{From: 1, Life: 2, Seq: 3, Ack: 4, Data: []byte("x")}, {From: 127, Life: 128, Seq: 300, Ack: 1 << 14, Data: []byte("abc")},
		{From: mostNumber}, {Life: mostNumber}, {Seq: mostNumber}, {Ack: mostNumber}, {From: mostNumber, Life: mostNumber, Ack: mostNumber},
		{Seq: 1, Data: zeros(127)}, {Seq: 1, Data: zeros(128)}, {Seq: 1, Data: zeros(api.MaxPacket - 1)}, {Seq: 1, Data: zeros(api.MaxPacket)},
		all, full,
	}
}

// wrongPackets are packets that are right but for one thing.
func wrongPackets() []api.Packet {
	ps := []api.Packet{
		{Data: []byte{0}}, {From: 1, Life: 2, Ack: 4, Data: []byte("x")}, {Data: zeros(api.MaxPacket)},
		{Seq: 1, Data: zeros(api.MaxPacket + 1)}, {Seq: 1, Data: zeros(2 * api.MaxPacket)},
	}
	for _, n := range []int{-1, math.MinInt, -mostNumber, mostNumber + 1, math.MaxInt} {
		ps = append(ps, api.Packet{From: n}, api.Packet{Life: n}, api.Packet{Seq: n}, api.Packet{Ack: n}, api.Packet{From: 1, Life: 2, Seq: n, Ack: 4, Data: []byte("x")}, api.Packet{From: 1, Life: 2, Seq: 3, Ack: n, Data: []byte("x")})
	}
	return ps
}

func TestPack(t *testing.T) {
	most := []byte{128, 128, 128, 128, 128, 128, 128, 128, 64}
	for _, x := range []struct {
		p    api.Packet
		want []byte
	}{
		{api.Packet{}, seal(0, 0, 0, 0, 0)},
		{api.Packet{From: 1, Life: 2, Seq: 3, Ack: 4, Data: []byte("x")}, seal(1, 2, 3, 4, 1, 120)},
		{api.Packet{From: 1, Life: 2, Seq: 0, Ack: 4}, seal(1, 2, 0, 4, 0)},
		{api.Packet{From: 300, Life: 127, Seq: 128, Ack: 0, Data: []byte{0, 0}}, seal(172, 2, 127, 128, 1, 0, 2, 0, 0)},
		{api.Packet{From: mostNumber, Ack: mostNumber}, seal(join(most, []byte{0, 0}, most, []byte{0})...)},
		{api.Packet{Seq: 1, Data: zeros(api.MaxPacket)}, seal(join([]byte{0, 0, 1, 0, 128, 128, 64}, zeros(api.MaxPacket))...)},
	} {
		b, e := frame.Pack(x.p)
		if e != api.OK || !slices.Equal(b, x.want) {
			t.Error(brief(x.p), brief(b), e)
		}
	}
	for _, p := range append(rightPackets(), packetsByChance(2000)...) {
		b, e := frame.Pack(p)
		if e != api.OK || !slices.Equal(b, slowPack(p)) {
			t.Error(brief(p), brief(b), e)
		}
	}
}

func TestPackOfWrongOnes(t *testing.T) {
	for i, p := range wrongPackets() {
		if b, e := frame.Pack(p); b != nil || e != api.ErrMessage {
			t.Error(i, brief(p), brief(b), e)
		}
	}
}

// P3.2: what is got, and what is not.

func TestGet(t *testing.T) {
	for _, x := range []struct {
		b    []byte
		want api.Msg
	}{
		{seal(0, 0, 0, 0), api.Msg{}},
		{seal(7, 0, 0, 0), api.Msg{Kind: 7}},
		{seal(255, 2, 2, 1, 0, 0), api.Msg{Kind: 255, Nums: []int64{1, -1}}},
		{seal(5, 1, 6, 1, 1, 8, 1, 1, 5), api.Msg{Kind: 5, Nums: []int64{3}, Vals: []api.Value{number(4)}, Blobs: [][]byte{{5}}}},
		{seal(0, 0, 0, 2, 0, 1, 9), api.Msg{Blobs: [][]byte{nil, {9}}}},
	} {
		m, e := frame.Get(x.b)
		if e != api.OK || !alike(m, x.want) {
			t.Error(x.b, m, e)
		}
	}
}

func TestGetOfWrongBytes(t *testing.T) {
	nines := slices.Repeat([]byte{128}, 9)
	long := zeros(api.MaxPacket - 4)
	for i, x := range []struct {
		b []byte
		e api.Errno
	}{
		{seal(join(long, zeros(1))...), api.ErrLong},
		{zeros(api.MaxPacket + 1), api.ErrLong},
		{zeros(2 * api.MaxPacket), api.ErrLong},
		{zeros(api.MaxPacket), api.ErrSum},
		{seal(long...), api.ErrBytes},
		{nil, api.ErrShort},
		{[]byte{}, api.ErrShort},
		{[]byte{7, 0, 0}, api.ErrShort},
		{[]byte{7, 0, 0, 0}, api.ErrSum},
		{[]byte{7, 0, 0, 0, 1, 2, 3, 4}, api.ErrSum},
		{join(seal(7, 0, 0, 0), zeros(1)), api.ErrSum},
		{seal(7, 0, 0, 0)[:7], api.ErrSum},
		{seal(), api.ErrShort},
		{seal(7), api.ErrShort},
		{seal(7, 0), api.ErrShort},
		{seal(7, 0, 0), api.ErrShort},
		{seal(7, 128), api.ErrShort},
		{seal(7, 128, 0), api.ErrBytes},
		{seal(join([]byte{7}, nines, []byte{2})...), api.ErrBytes},
		{seal(7, 1), api.ErrShort},
		{seal(7, 2, 2), api.ErrShort},
		{seal(7, 1, 128), api.ErrShort},
		{seal(7, 1, 129, 0, 0, 0), api.ErrBytes},
		{seal(7, 65), api.ErrMessage},
		{seal(7, 128, 1), api.ErrMessage},
		{seal(7, 65, 129, 0), api.ErrMessage},
		{seal(join([]byte{7}, nines, []byte{1})...), api.ErrMessage},
		{seal(join([]byte{7, 65}, zeros(67))...), api.ErrMessage},
		{seal(7, 64), api.ErrShort},
		{seal(7, 0, 128, 0), api.ErrBytes},
		{seal(7, 0, 1), api.ErrShort},
		{seal(7, 0, 1, 1), api.ErrShort},
		{seal(7, 0, 1, 9, 0), api.ErrBytes},
		{seal(7, 0, 1, 2, 2, 0), api.ErrBytes},
		{seal(7, 0, 1, 5, 1, 0), api.ErrValue},
		{seal(7, 0, 1, 4, 129, 2), api.ErrValue},
		{seal(join([]byte{7, 0, 1}, slices.Repeat([]byte{4, 1}, 16), []byte{1, 0, 0})...), api.ErrValue},
		{seal(7, 0, 1, 3, 129, 32), api.ErrLong},
		{seal(7, 0, 65), api.ErrMessage},
		{seal(7, 0, 65, 9), api.ErrMessage},
		{seal(join([]byte{7, 0}, nines, []byte{1})...), api.ErrMessage},
		{seal(7, 0, 64), api.ErrShort},
		{seal(7, 0, 64, 9), api.ErrBytes},
		{seal(7, 0, 0, 129, 0), api.ErrBytes},
		{seal(7, 0, 0, 1), api.ErrShort},
		{seal(7, 0, 0, 2, 0), api.ErrShort},
		{seal(7, 0, 0, 1, 2, 97), api.ErrShort},
		{seal(7, 0, 0, 1, 130, 0, 97, 98), api.ErrBytes},
		{seal(7, 0, 0, 1, 129, 128, 4), api.ErrLong},
		{seal(join([]byte{7, 0, 0, 1, 129, 128, 4}, zeros(65537))...), api.ErrLong},
		{seal(7, 0, 0, 1, 128, 128, 4), api.ErrShort},
		{seal(join([]byte{7, 0, 0, 1}, nines, []byte{1})...), api.ErrLong},
		{seal(7, 0, 0, 17), api.ErrMessage},
		{seal(join([]byte{7, 0, 0, 17}, zeros(17))...), api.ErrMessage},
		{seal(join([]byte{7, 0, 0}, nines, []byte{1})...), api.ErrMessage},
		{seal(7, 0, 0, 16), api.ErrShort},
		{seal(7, 0, 0, 0, 0), api.ErrBytes},
		{seal(7, 0, 0, 0, 7, 0, 0, 0), api.ErrBytes},
		{seal(7, 0, 0, 1, 0, 0), api.ErrBytes},
		{seal(seal(7, 0, 0, 0)...), api.ErrBytes},
		{seal(7, 65, 0, 65), api.ErrMessage},
		{seal(7, 1, 128, 0, 65), api.ErrBytes},
		{seal(7, 0, 1, 5, 1, 17), api.ErrValue},
	} {
		m, e := frame.Get(x.b)
		if !reflect.DeepEqual(m, api.Msg{}) || e != x.e {
			t.Error(i, brief(x.b), brief(m), e, "not", x.e)
		}
	}
}

func TestUnpack(t *testing.T) {
	for _, x := range []struct {
		b    []byte
		want api.Packet
	}{
		{seal(0, 0, 0, 0, 0), api.Packet{}},
		{seal(1, 2, 3, 4, 1, 120), api.Packet{From: 1, Life: 2, Seq: 3, Ack: 4, Data: []byte("x")}},
		{seal(172, 2, 127, 128, 1, 0, 2, 0, 0), api.Packet{From: 300, Life: 127, Seq: 128, Data: []byte{0, 0}}},
		{seal(9, 8, 0, 7, 0), api.Packet{From: 9, Life: 8, Ack: 7}},
		{seal(0, 0, 5, 0, 0), api.Packet{Seq: 5}},
	} {
		p, e := frame.Unpack(x.b)
		if e != api.OK || !alikePackets(p, x.want) {
			t.Error(x.b, p, e)
		}
	}
}

func TestUnpackOfWrongBytes(t *testing.T) {
	most := bytes.Uint(nil, mostNumber)
	above := bytes.Uint(nil, mostNumber+1)
	huge := bytes.Uint(nil, math.MaxUint64)
	full := join([]byte{0, 0, 1, 0, 128, 128, 64}, zeros(api.MaxPacket))
	for i, x := range []struct {
		b []byte
		e api.Errno
	}{
		{zeros(api.MaxPacket + 65), api.ErrLong},
		{seal(zeros(api.MaxPacket + 61)...), api.ErrLong},
		{zeros(2 * api.MaxPacket), api.ErrLong},
		{zeros(api.MaxPacket + 64), api.ErrSum},
		{seal(zeros(api.MaxPacket + 60)...), api.ErrBytes},
		{seal(join(full, zeros(1))...), api.ErrBytes},
		{seal(join(full, zeros(53))...), api.ErrBytes},
		{seal(join(full, zeros(54))...), api.ErrLong},
		{nil, api.ErrShort},
		{[]byte{1, 2, 3}, api.ErrShort},
		{[]byte{1, 2, 3, 4, 1, 120, 0, 0, 0, 0}, api.ErrSum},
		{join(seal(1, 2, 3, 4, 1, 120), zeros(1)), api.ErrSum},
		{seal(), api.ErrShort},
		{seal(1), api.ErrShort},
		{seal(1, 2), api.ErrShort},
		{seal(1, 2, 3), api.ErrShort},
		{seal(1, 2, 3, 4), api.ErrShort},
		{seal(1, 2, 3, 4, 1), api.ErrShort},
		{seal(1, 2, 3, 4, 2, 120), api.ErrShort},
		{seal(1, 2, 3, 128), api.ErrShort},
		{seal(128, 0, 3, 4, 1, 120), api.ErrBytes},
		{seal(1, 129, 0, 3, 4, 1, 120), api.ErrBytes},
		{seal(1, 2, 3, 4, 129, 0, 120), api.ErrBytes},
		{seal(join(huge[:9], []byte{2})...), api.ErrBytes},
		{seal(above...), api.ErrMessage},
		{seal(huge...), api.ErrMessage},
		{seal(join(above, []byte{129, 0})...), api.ErrMessage},
		{seal(join([]byte{1}, above)...), api.ErrMessage},
		{seal(join([]byte{1, 2}, above)...), api.ErrMessage},
		{seal(join([]byte{1, 2, 3}, above)...), api.ErrMessage},
		{seal(join([]byte{1, 2, 3}, huge, []byte{1, 120})...), api.ErrMessage},
		{seal(join([]byte{1, 2, 3}, bytes.Uint(nil, 1<<63), []byte{1, 120})...), api.ErrMessage},
		{seal(join(most, []byte{129, 0})...), api.ErrBytes},
		{seal(join(most, most, most, most)...), api.ErrShort},
		{seal(join([]byte{1, 2, 3, 4, 129, 128, 64}, zeros(20))...), api.ErrLong},
		{seal(join([]byte{1, 2, 3, 4, 129, 128, 64}, zeros(api.MaxPacket+1))...), api.ErrLong},
		{seal(join([]byte{1, 2, 3, 4}, huge)...), api.ErrLong},
		{seal(1, 2, 3, 4, 128, 128, 64), api.ErrShort},
		{seal(1, 2, 0, 4, 1, 120), api.ErrMessage},
		{seal(1, 2, 0, 4, 1, 120, 0), api.ErrMessage},
		{seal(0, 0, 0, 0, 1, 0), api.ErrMessage},
		{seal(1, 2, 0, 4, 2, 120), api.ErrShort},
		{seal(1, 2, 0, 4, 129, 128, 64), api.ErrLong},
		{seal(1, 2, 0, 4, 0, 0), api.ErrBytes},
		{seal(1, 2, 3, 4, 1, 120, 0), api.ErrBytes},
		{seal(1, 2, 3, 4, 0, 120), api.ErrBytes},
		{seal(seal(1, 2, 3, 4, 1, 120)...), api.ErrBytes},
	} {
		p, e := frame.Unpack(x.b)
		if !reflect.DeepEqual(p, api.Packet{}) || e != x.e {
			t.Error(i, brief(x.b), brief(p), e, "not", x.e)
		}
	}
}

func TestCutBytes(t *testing.T) {
	for _, m := range manyByChance(200) {
		b := slowPut(m)
		b = b[:len(b)-4]
		for n := range b {
			if got, e := frame.Get(seal(b[:n]...)); !reflect.DeepEqual(got, api.Msg{}) || e != api.ErrShort {
				t.Fatal(brief(m), n, brief(got), e)
			}
		}
	}
	for _, p := range packetsByChance(500) {
		b := slowPack(p)
		b = b[:len(b)-4]
		for n := range b {
			if got, e := frame.Unpack(seal(b[:n]...)); !reflect.DeepEqual(got, api.Packet{}) || e != api.ErrShort {
				t.Fatal(brief(p), n, brief(got), e)
			}
		}
	}
}

// P3.3: what is put is got; what is got is right; one form.

func TestPutIsGot(t *testing.T) {
	for _, m := range append(rightOnes(), manyByChance(2000)...) {
		b, _ := frame.Put(m)
		got, e := frame.Get(b)
		if e != api.OK || !alike(got, m) {
			t.Error(brief(m), brief(got), e)
		}
	}
	for _, p := range append(rightPackets(), packetsByChance(5000)...) {
		b, _ := frame.Pack(p)
		got, e := frame.Unpack(b)
		if e != api.OK || !alikePackets(got, p) {
			t.Error(brief(p), brief(got), e)
		}
	}
}

// holds asks of these bytes all that the chapter promises, and tells Get's error.
func holds(t *testing.T, b []byte) api.Errno {
	t.Helper()
	m, e := frame.Get(seal(b...))
	if want := slowGet(b); e != want || e != api.OK && !reflect.DeepEqual(m, api.Msg{}) {
		t.Fatal(b, m, e, "not", want)
	}
	if e != api.OK {
		return e
	}
	again, e := frame.Put(m)
	if !frame.Right(m) || e != api.OK || !slices.Equal(again, seal(b...)) {
		t.Fatal(b, m, again, e)
	}
	return api.OK
}

// holdsOfPacket is likewise, of Unpack.
func holdsOfPacket(t *testing.T, b []byte) api.Errno {
	t.Helper()
	p, e := frame.Unpack(seal(b...))
	if want := slowUnpack(b); e != want || e != api.OK && !reflect.DeepEqual(p, api.Packet{}) {
		t.Fatal(b, p, e, "not", want)
	}
	if e != api.OK {
		return e
	}
	again, e := frame.Pack(p)
	if e != api.OK || !slices.Equal(again, seal(b...)) {
		t.Fatal(b, p, again, e)
	}
	return api.OK
}

func TestBytesByChance(t *testing.T) {
	r := rand.New(rand.NewPCG(5, 6))
	hard := []byte{0, 0, 0, 1, 1, 2, 2, 3, 4, 5, 6, 16, 17, 64, 65, 127, 128, 129, 255}
	seen, packets := map[api.Errno]int{}, map[api.Errno]int{}
	for range 300000 {
		b := make([]byte, r.IntN(20))
		for i := range b {
			b[i] = hard[r.IntN(len(hard))]
		}
		seen[holds(t, b)]++
		packets[holdsOfPacket(t, b)]++
	}
	for _, e := range []api.Errno{api.OK, api.ErrShort, api.ErrBytes, api.ErrMessage} {
		if seen[e] == 0 || packets[e] == 0 {
			t.Error("never met:", e)
		}
	}
	if seen[api.ErrLong] == 0 || seen[api.ErrValue] == 0 {
		t.Error("never met:", seen)
	}
}

func TestChangedBytes(t *testing.T) {
	r := rand.New(rand.NewPCG(7, 8))
	change := func(b []byte) []byte {
		b = slices.Clone(b[:len(b)-4])
		switch i := r.IntN(len(b)); r.IntN(3) {
		case 0:
			b[i] = byte(r.Uint32() >> r.IntN(8))
		case 1:
			b = slices.Delete(b, i, i+1)
		case 2:
			b = slices.Insert(b, i, byte(r.Uint32()>>r.IntN(8)))
		}
		return b
	}
	for _, m := range manyByChance(1000) {
		for range 20 {
			holds(t, change(slowPut(m)))
		}
	}
	for _, p := range packetsByChance(5000) {
		for range 20 {
			holdsOfPacket(t, change(slowPack(p)))
		}
	}
}

func TestChangedSealedBytes(t *testing.T) {
	b := slowPut(api.Msg{Kind: 5, Nums: []int64{3}, Vals: []api.Value{number(4)}, Blobs: [][]byte{{5}}})
	p := slowPack(api.Packet{From: 1, Life: 2, Seq: 3, Ack: 4, Data: []byte("x")})
	for i := range b {
		for x := 1; x < 256; x++ {
			b[i] ^= byte(x)
			if m, e := frame.Get(b); !reflect.DeepEqual(m, api.Msg{}) || e != api.ErrSum {
				t.Fatal(i, x, m, e)
			}
			b[i] ^= byte(x)
		}
	}
	for i := range p {
		for x := 1; x < 256; x++ {
			p[i] ^= byte(x)
			if got, e := frame.Unpack(p); !reflect.DeepEqual(got, api.Packet{}) || e != api.ErrSum {
				t.Fatal(i, x, got, e)
			}
			p[i] ^= byte(x)
		}
	}
}

// R3: nothing that is handed in is changed or kept, and what is handed out is new.

func TestMessageStays(t *testing.T) {
	nums := []int64{1, 2, 77, 77}
	vals := []api.Value{tuple(number(1), text("a")), number(2), number(77)}
	room := slices.Repeat([]byte{77}, 16)
	m := api.Msg{Kind: 1, Nums: nums[:2], Vals: vals[:2], Blobs: [][]byte{room[:3], room[5:6]}}
	b, _ := frame.Put(m)
	was := slices.Clone(b)
	frame.Right(m)
	if !slices.Equal(nums, []int64{1, 2, 77, 77}) || !slices.EqualFunc(vals, []api.Value{tuple(number(1), text("a")), number(2), number(77)}, value.Same) || !slices.Equal(room, slices.Repeat([]byte{77}, 16)) {
		t.Error("changed", nums, vals, room)
	}
	clear(room)
	if !slices.Equal(b, was) {
		t.Error("shared", b)
	}
}

func TestPacketStays(t *testing.T) {
	room := slices.Repeat([]byte{77}, 16)
	p := api.Packet{Seq: 1, Data: room[:3]}
	b, _ := frame.Pack(p)
	was := slices.Clone(b)
	if !slices.Equal(room, slices.Repeat([]byte{77}, 16)) {
		t.Error("changed", room)
	}
	clear(room)
	if !slices.Equal(b, was) {
		t.Error("shared", b)
	}
}

func TestGotIsNew(t *testing.T) {
	want := api.Msg{Nums: []int64{1}, Vals: []api.Value{text("abc"), tuple(number(1))}, Blobs: [][]byte{[]byte("de"), []byte("fg")}}
	b := slowPut(want)
	was := slices.Clone(b)
	first, _ := frame.Get(b)
	second, _ := frame.Get(b)
	for _, blob := range first.Blobs {
		clear(blob[:cap(blob)])
	}
	first.Nums[0], first.Vals[1].L[0], first.Blobs[0] = 9, number(9), nil
	if !slices.Equal(b, was) {
		t.Error("handed out", b)
	}
	clear(b)
	if !alike(second, want) {
		t.Error("shared", second)
	}
}

func TestGotDataIsNew(t *testing.T) {
	want := api.Packet{Seq: 1, Data: []byte("abc")}
	b := slowPack(want)
	was := slices.Clone(b)
	first, _ := frame.Unpack(b)
	second, _ := frame.Unpack(b)
	clear(first.Data[:cap(first.Data)])
	if !slices.Equal(b, was) {
		t.Error("handed out", b)
	}
	clear(b)
	if !alikePackets(second, want) {
		t.Error("shared", second)
	}
}

func TestBlobsShareNothing(t *testing.T) {
	m, _ := frame.Get(slowPut(api.Msg{Blobs: [][]byte{[]byte("ab"), []byte("cd")}}))
	_ = append(m.Blobs[0], 'x')
	clear(m.Blobs[0][:cap(m.Blobs[0])])
	if string(m.Blobs[1]) != "cd" {
		t.Error(m)
	}
}
