package session_test

import (
	"fmt"
	"maps"
	"math"
	"math/rand/v2"
	"slices"
	"strings"
	"testing"

	"drover/api"
	"drover/bytes"
	"drover/frame"
	"drover/session"
)

const (
	mostNodes   = 16
	mostWaiting = 1024
	window      = 8
	mostData    = 1 << 20 // bytes of an item
	mostNumber  = 1 << 61 // of a life, and of a right link
	mostPacked  = 1 << 62 // of a packet's numbers
)

// packet is a packet as the tests tell it.
type packet struct {
	from, life, seq, ack int
	data                 string
}

// packed is p as bytes.
func packed(t *testing.T, p packet) []byte {
	t.Helper()
	b, e := frame.Pack(api.Packet{From: p.from, Life: p.life, Seq: p.seq, Ack: p.ack, Data: []byte(p.data)})
	if e != api.OK {
		t.Fatalf("Pack(%+v) = %d", p, e)
	}
	return b
}

// unpacked are the packets whose bytes these are.
func unpacked(packets [][]byte) []packet {
	var all []packet
	for _, b := range packets {
		p, e := frame.Unpack(b)
		if e != api.OK {
			return append(all, packet{data: fmt.Sprintf("Unpack: %d", e)})
		}
		all = append(all, packet{p.From, p.Life, p.Seq, p.Ack, string(p.Data)})
	}
	return all
}

// linkOf is a right link with these waiting.
func linkOf(last, done int, waiting ...string) api.Link {
	l := api.Link{Last: last, Done: done}
	for i, data := range waiting {
		l.Out = append(l.Out, api.Item{Seq: last - len(waiting) + 1 + i, Data: []byte(data)})
	}
	return l
}

// linkText is a link as a text.
func linkText(l api.Link) string {
	var b strings.Builder
	fmt.Fprintf(&b, "last %d done %d out", l.Last, l.Done)
	for _, x := range l.Out {
		fmt.Fprintf(&b, " %d:%q", x.Seq, x.Data)
	}
	return b.String()
}

// fresh is the session of the node 0 with the node 1, in the life 5, from that link on.
func fresh(t *testing.T, l api.Link) *session.Session {
	t.Helper()
	s, e := session.New(0, 1, 5, l)
	if s == nil || e != api.OK {
		t.Fatalf("New(0, 1, 5, %.200s) = %v, %d", linkText(l), s, e)
	}
	return s
}

// full is a session with the most waiting, each with its number as its bytes.
func full(t *testing.T) (*session.Session, []string) {
	t.Helper()
	var all []string
	for i := range mostWaiting {
		all = append(all, fmt.Sprint(i+1))
	}
	return fresh(t, linkOf(mostWaiting, 0, all...)), all
}

// want tells what a call answered, if it was not that.
func want(t *testing.T, call string, got, e api.Errno) {
	t.Helper()
	if got != e {
		t.Errorf("%s: error %d, want %d", call, got, e)
	}
}

// wantSame tells what came of something, if it was not that.
func wantSame[T comparable](t *testing.T, what string, got, wanted T) {
	t.Helper()
	if got != wanted {
		t.Errorf("%s: %.300s; want %.300s", what, fmt.Sprint(got), fmt.Sprint(wanted))
	}
}

// sends sends each of these.
func sends(t *testing.T, s *session.Session, all ...string) {
	t.Helper()
	for _, data := range all {
		_, e := s.Send([]byte(data))
		want(t, "Send", e, api.OK)
	}
}

// receives hands a packet in, and tells what came of it, if it was not the item of that packet.
func receives(t *testing.T, s *session.Session, p packet) {
	t.Helper()
	x, ok, e := s.Receive(packed(t, p))
	if !ok || e != api.OK || x.Seq != p.seq || string(x.Data) != p.data {
		t.Errorf("Receive(%.200s) = %d %.40q, %v, %d; want its item", fmt.Sprint(p), x.Seq, x.Data, ok, e)
	}
}

// receivesNone hands bytes in, and tells what came of them, if it was not that error, or none, and nothing else.
func receivesNone(t *testing.T, s *session.Session, what string, b []byte, wanted api.Errno) {
	t.Helper()
	x, ok, e := s.Receive(b)
	if ok || e != wanted || x.Seq != 0 || x.Data != nil {
		t.Errorf("Receive of %s = %d %.40q, %v, %d; want nothing, %d", what, x.Seq, x.Data, ok, e, wanted)
	}
}

// accepts accepts and does all numbers from one to another.
func accepts(t *testing.T, s *session.Session, from, to int) {
	t.Helper()
	for seq := from; seq <= to; seq++ {
		want(t, fmt.Sprintf("Accept(%d)", seq), s.Accept(seq), api.OK)
		want(t, fmt.Sprintf("Done(%d)", seq), s.Done(seq), api.OK)
	}
}

// outside are numbers that no count comes near.
func outside() []int {
	return []int{-1, -2, math.MinInt, 1 << 32, 1<<32 + 1, math.MaxInt}
}

// The chapter's examples.
func TestExamples(t *testing.T) {
	a, e := session.New(0, 1, 1, api.Link{})
	want(t, "New", e, api.OK)
	b, e := session.New(1, 0, 1, api.Link{})
	want(t, "New", e, api.OK)
	sends(t, a, "x", "y")
	l := a.Packets()
	wantSame(t, "packets", fmt.Sprint(unpacked(l)), fmt.Sprint([]packet{{0, 1, 1, 0, "x"}, {0, 1, 2, 0, "y"}}))
	receivesNone(t, b, "the second", l[1], api.OK)
	receives(t, b, packet{0, 1, 1, 0, "x"})
	accepts(t, b, 1, 1)
	p := b.Packets()
	wantSame(t, "its packets", fmt.Sprint(unpacked(p)), fmt.Sprint([]packet{{1, 1, 0, 1, ""}}))
	receivesNone(t, a, "its packet", p[0], api.OK)
	wantSame(t, "Waiting", a.Waiting(), 1)
	b, e = session.New(1, 0, 2, b.Link())
	want(t, "New", e, api.OK)
	receivesNone(t, b, "the first packet again", l[0], api.OK)
	receives(t, b, packet{0, 1, 2, 0, "y"})
}

// P7.1: which nodes and lives New takes.
func TestNew(t *testing.T) {
	for self := -1; self <= mostNodes; self++ {
		for peer := -1; peer <= mostNodes; peer++ {
			s, e := session.New(self, peer, 1, api.Link{})
			if right := min(self, peer) >= 0 && max(self, peer) < mostNodes; right != (s != nil) || right != (e == api.OK) || !right && e != api.ErrArg {
				t.Errorf("New(%d, %d, 1) = %v, %d", self, peer, s, e)
			}
		}
	}
	for _, bad := range append(outside(), mostNodes, mostNodes+1) {
		for _, ends := range [][2]int{{bad, 0}, {0, bad}, {bad, bad}} {
			if s, e := session.New(ends[0], ends[1], 1, api.Link{}); s != nil || e != api.ErrArg {
				t.Errorf("New(%d, %d, 1) = %v, %d", ends[0], ends[1], s, e)
			}
		}
	}
	for _, life := range []int{0, -1, math.MinInt, mostNumber + 1, mostNumber * 2, math.MaxInt} {
		if s, e := session.New(0, 1, life, api.Link{}); s != nil || e != api.ErrArg {
			t.Errorf("New of life %d = %v, %d", life, s, e)
		}
	}
	for _, life := range []int{1, 2, 3, 1 << 32, mostNumber - 1, mostNumber} {
		s, e := session.New(15, 3, life, api.Link{})
		if s == nil || e != api.OK {
			t.Fatalf("New of life %d = %v, %d", life, s, e)
		}
		wantSame(t, "packets", fmt.Sprint(unpacked(s.Packets())), fmt.Sprint([]packet{{15, life, 0, 0, ""}}))
		wantSame(t, "PeerLife", s.PeerLife(), 0)
	}
}

// P7.1: what a session is at first, of links that are right.
func TestRightLinks(t *testing.T) {
	long := strings.Repeat("0123456789abcdef", mostData/16)
	_, most := full(t)
	for _, l := range []api.Link{
		{},
		{Out: []api.Item{}},
		linkOf(0, 7),
		linkOf(7, 0),
		linkOf(1, 0, "a"),
		linkOf(2, 9, "a", ""),
		linkOf(9, 2, "a", "b", "a"),
		linkOf(3, 0, "", "", ""),
		linkOf(mostNumber, 0),
		linkOf(0, mostNumber),
		linkOf(mostNumber, mostNumber, "a", "b"),
		linkOf(mostWaiting, 1, most...),
		linkOf(mostNumber, 1, most...),
		linkOf(5, 5, long, long[1:]),
	} {
		s := fresh(t, l)
		wantSame(t, "Link", linkText(s.Link()), linkText(l))
		wantSame(t, "Waiting", s.Waiting(), len(l.Out))
		wantSame(t, "PeerLife", s.PeerLife(), 0)
		want(t, "Accept of what was done", s.Accept(l.Done), api.ErrSeq)
		want(t, "Accept of more than the next", s.Accept(l.Done+2), api.ErrSeq)
		want(t, "Done of the next", s.Done(l.Done+1), api.ErrSeq)
		want(t, "Accept of the next", s.Accept(l.Done+1), api.OK)
	}
}

// P7.1: links that are not right.
func TestWrongLinks(t *testing.T) {
	items := func(seqs ...int) []api.Item {
		var out []api.Item
		for _, seq := range seqs {
			out = append(out, api.Item{Seq: seq})
		}
		return out
	}
	long := linkOf(3, 0, "a", "b", "c")
	long.Out[1].Data = make([]byte, mostData+1)
	_, most := full(t)
	for _, l := range []api.Link{
		{Last: -1},
		{Done: -1},
		{Last: math.MinInt},
		{Done: math.MinInt},
		{Last: mostNumber + 1},
		{Done: mostNumber + 1},
		{Last: math.MaxInt},
		{Done: math.MaxInt},
		{Last: mostNumber + 1, Out: items(mostNumber + 1)},
		{Last: 5, Out: items(4)},
		{Last: 5, Out: items(6)},
		{Last: 5, Out: items(5, 6)},
		{Last: 5, Out: items(5, 4)},
		{Last: 5, Out: items(3, 5)},
		{Last: 5, Out: items(5, 5)},
		{Last: 5, Out: items(3, 4)},
		{Last: 5, Out: items(3, 3, 5)},
		{Last: 5, Out: items(3, 5, 5)},
		{Last: 5, Out: items(1, 4, 5)},
		{Last: 5, Out: items(0)},
		{Last: 5, Out: items(-5)},
		{Last: 0, Out: items(1)},
		{Last: 0, Out: items(0)},
		{Last: 1, Out: items(0, 1)},
		{Last: 2, Out: items(-1, 0, 1, 2)},
		{Last: 0, Out: items(-1, 0)},
		{Last: math.MinInt, Out: items(math.MinInt)},
		{Last: 0, Out: items(math.MaxInt, math.MinInt)},
		linkOf(mostWaiting+1, 0, append(most, "more")...),
		linkOf(mostNumber, 0, append(most, "more", "more")...),
		linkOf(1, 0, string(make([]byte, mostData+1))),
		long,
	} {
		if s, e := session.New(0, 1, 1, l); s != nil || e != api.ErrArg {
			t.Errorf("New of %.200s = %v, %d", linkText(l), s, e)
		}
	}
}

// P7.2: what is sent waits, the last one, with the next number.
func TestSend(t *testing.T) {
	for _, last := range []int{0, 1, 41, mostNumber - 1, mostNumber} {
		s := fresh(t, linkOf(last, 3))
		var all []string
		for i, data := range []string{"a", "", "a", "\x00", "\xff\xfe\x80", strings.Repeat("xyz", 1000), "\xc3\xa4", "b", "c", "d"} {
			n, e := s.Send([]byte(data))
			want(t, "Send", e, api.OK)
			wantSame(t, "Send", n, last+1+i)
			all = append(all, data)
			wantSame(t, "Link", linkText(s.Link()), linkText(linkOf(last+1+i, 3, all...)))
			wantSame(t, "Waiting", s.Waiting(), i+1)
		}
	}
	s := fresh(t, api.Link{})
	n, e := s.Send(nil)
	want(t, "Send of nil", e, api.OK)
	wantSame(t, "Send of nil", n, 1)
}

// P7.2, limits: the longest items, and longer ones; they come whole.
func TestLongest(t *testing.T) {
	long := strings.Repeat("0123456789abcdef", mostData/16)
	s := fresh(t, api.Link{})
	for _, more := range []int{1, 2, 64, 1 << 20, 1 << 24} {
		n, e := s.Send(make([]byte, mostData+more))
		want(t, fmt.Sprintf("Send of %d bytes too much", more), e, api.ErrLong)
		wantSame(t, "Send of too much", n, 0)
		wantSame(t, "Link", linkText(s.Link()), linkText(api.Link{}))
	}
	sends(t, s, long, long[1:])
	wantSame(t, "Link", linkText(s.Link()), linkText(linkOf(2, 0, long, long[1:])))
	b, e := session.New(1, 0, 1, api.Link{})
	want(t, "New", e, api.OK)
	for i, data := range s.Packets() {
		x, ok, e := b.Receive(data)
		if !ok || e != api.OK || x.Seq != i+1 || string(x.Data) != long[i:] {
			t.Errorf("the longest came as %d, %d bytes, %v, %d", x.Seq, len(x.Data), ok, e)
		}
		accepts(t, b, i+1, i+1)
	}
	wantSame(t, "done", b.Link().Done, 2)
}

// P7.2, limits: 1024 wait at most; where one goes there is room for one.
func TestFull(t *testing.T) {
	s, all := full(t)
	refuses := func(last int) {
		t.Helper()
		for _, data := range []string{"x", ""} {
			n, e := s.Send([]byte(data))
			want(t, "Send at most", e, api.ErrFull)
			wantSame(t, "Send at most", n, 0)
		}
		wantSame(t, "Link", linkText(s.Link()), linkText(linkOf(last, 0, all...)))
	}
	refuses(mostWaiting)
	for _, ack := range []int{1, 2, 9} {
		receivesNone(t, s, "an ack", packed(t, packet{1, 1, 0, ack, ""}), api.OK)
		for len(all) > 0 && all[0] != fmt.Sprint(ack+1) {
			all = all[1:]
		}
		wantSame(t, "Waiting", s.Waiting(), len(all))
		for len(all) < mostWaiting {
			data := fmt.Sprint(s.Link().Last + 1)
			sends(t, s, data)
			all = append(all, data)
		}
		refuses(mostWaiting + ack)
	}
	s = fresh(t, api.Link{})
	for i := range mostWaiting {
		wantSame(t, "Waiting", s.Waiting(), i)
		sends(t, s, "x")
	}
	_, e := s.Send(nil)
	want(t, "Send at most", e, api.ErrFull)
}

// P7.2: Packets are the first eight that wait, or one without an item; each says who and how far this end is.
func TestPackets(t *testing.T) {
	for many := range 20 {
		s, e := session.New(7, 9, 33, linkOf(100, 4))
		want(t, "New", e, api.OK)
		var wanted []packet
		for i := range many {
			data := strings.Repeat("d", i)
			sends(t, s, data)
			if i < window {
				wanted = append(wanted, packet{7, 33, 101 + i, 4, data})
			}
		}
		if many == 0 {
			wanted = []packet{{7, 33, 0, 4, ""}}
		}
		for range 2 {
			got := s.Packets()
			wantSame(t, "packets", fmt.Sprint(unpacked(got)), fmt.Sprint(wanted))
			for i, b := range got {
				wantSame(t, "bytes", string(b), string(packed(t, wanted[i])))
			}
		}
		want(t, "Accept", s.Accept(5), api.OK)
		wantSame(t, "packets of what was accepted", fmt.Sprint(unpacked(s.Packets())), fmt.Sprint(wanted))
		want(t, "Done", s.Done(5), api.OK)
		for i := range wanted {
			wanted[i].ack = 5
		}
		wantSame(t, "packets of what was done", fmt.Sprint(unpacked(s.Packets())), fmt.Sprint(wanted))
		wantSame(t, "Waiting", s.Waiting(), many)
	}
}

// P7.2, P7.3: of more than eight that wait, acks bring the next ones.
func TestWindowGoesOn(t *testing.T) {
	s, all := full(t)
	for _, ack := range []int{0, 1, 8, 8, 5, 0, 20, 500, 1015, 1016, 1017, 1023, 1024, 3} {
		receivesNone(t, s, "an ack", packed(t, packet{1, 1, 0, ack, ""}), api.OK)
		left := min(mostWaiting-ack, s.Waiting())
		wantSame(t, "Waiting", s.Waiting(), left)
		var wanted []packet
		for i := range min(left, window) {
			seq := mostWaiting - left + 1 + i
			wanted = append(wanted, packet{0, 5, seq, 0, all[seq-1]})
		}
		if left == 0 {
			wanted = []packet{{0, 5, 0, 0, ""}}
		}
		wantSame(t, fmt.Sprintf("packets behind the ack %d", ack), fmt.Sprint(unpacked(s.Packets())), fmt.Sprint(wanted))
	}
}

// P7.2, P7.3: numbers behind the greatest of a right link go on.
func TestGreatestNumbers(t *testing.T) {
	a, e := session.New(0, 1, mostNumber, linkOf(mostNumber, mostNumber, "z"))
	want(t, "New", e, api.OK)
	sends(t, a, "a", "b")
	wantSame(t, "packets", fmt.Sprint(unpacked(a.Packets())), fmt.Sprint([]packet{{0, mostNumber, mostNumber, mostNumber, "z"}, {0, mostNumber, mostNumber + 1, mostNumber, "a"}, {0, mostNumber, mostNumber + 2, mostNumber, "b"}}))
	receives(t, a, packet{1, mostPacked, mostNumber + 1, mostNumber + 1, "c"})
	accepts(t, a, mostNumber+1, mostNumber+1)
	wantSame(t, "Link", linkText(a.Link()), linkText(linkOf(mostNumber+2, mostNumber+1, "b")))
	wantSame(t, "PeerLife", a.PeerLife(), mostPacked)
	for _, p := range []packet{{1, mostPacked, mostPacked, mostNumber, "d"}, {1, mostNumber, mostNumber + 2, mostNumber, "d"}} {
		receivesNone(t, a, "what is not the next one, or of an elder life", packed(t, p), api.OK)
	}
	receivesNone(t, a, "a great ack", packed(t, packet{1, mostPacked, mostNumber + 2, mostPacked, "d"}), api.ErrSeq)
	want(t, "Accept", a.Accept(mostPacked), api.ErrSeq)
	receives(t, a, packet{1, mostPacked, mostNumber + 2, mostNumber, "d"})
}

// P7.3: the item of the number behind what was accepted comes, as often as it is handed in; no other one.
func TestReceiveItems(t *testing.T) {
	s := fresh(t, linkOf(0, 3))
	for next := 4; next < 10; next++ {
		for _, seq := range []int{0, 1, next - 2, next - 1, next + 1, next + 2, next + 100, mostNumber, mostPacked} {
			data := "x"
			if seq == 0 {
				data = ""
			}
			receivesNone(t, s, fmt.Sprintf("the number %d at %d", seq, next), packed(t, packet{1, 1, seq, 0, data}), api.OK)
		}
		for _, data := range []string{"a", "", "another", strings.Repeat("\x00\xff", next)} {
			receives(t, s, packet{1, 1, next, 0, data})
		}
		want(t, "Accept", s.Accept(next), api.OK)
		wantSame(t, "done", s.Link().Done, 3)
	}
	want(t, "Done", s.Done(7), api.OK)
	receivesNone(t, s, "what was accepted", packed(t, packet{1, 1, 8, 0, "x"}), api.OK)
	receives(t, s, packet{1, 1, 10, 0, "x"})
	s = fresh(t, s.Link())
	receivesNone(t, s, "what was done", packed(t, packet{1, 1, 7, 0, "x"}), api.OK)
	receivesNone(t, s, "what is too early", packed(t, packet{1, 1, 10, 0, "x"}), api.OK)
	receives(t, s, packet{1, 1, 8, 0, "x"})
}

// P7.3: an item comes with an ack, and an ack is taken beside an item that does not come.
func TestReceiveBoth(t *testing.T) {
	s := fresh(t, linkOf(5, 0, "a", "b", "c"))
	receives(t, s, packet{1, 1, 1, 3, "x"})
	wantSame(t, "Link", linkText(s.Link()), linkText(linkOf(5, 0, "b", "c")))
	receivesNone(t, s, "the third", packed(t, packet{1, 1, 3, 4, "z"}), api.OK)
	wantSame(t, "Link", linkText(s.Link()), linkText(linkOf(5, 0, "c")))
	receives(t, s, packet{1, 1, 1, 2, "x"})
	wantSame(t, "Link", linkText(s.Link()), linkText(linkOf(5, 0, "c")))
	receives(t, s, packet{1, 1, 1, 5, "x"})
	wantSame(t, "Link", linkText(s.Link()), linkText(linkOf(5, 0)))
	sends(t, s, "d")
	wantSame(t, "Link", linkText(s.Link()), linkText(linkOf(6, 0, "d")))
}

// P7.3: packets of an elder life of the peer's do nothing.
func TestPeerLife(t *testing.T) {
	s := fresh(t, linkOf(5, 0, "a", "b", "c"))
	receives(t, s, packet{1, 0, 1, 0, "x"})
	wantSame(t, "PeerLife", s.PeerLife(), 0)
	seen := 0
	for _, life := range []int{1, 1, 2, 1, 0, 7, 6, 7, 3, 8, mostNumber, mostPacked, mostNumber, 8} {
		p := packet{1, life, 1, 0, "x"}
		if life < seen {
			p.ack = 5
			receivesNone(t, s, fmt.Sprintf("the life %d behind %d", life, seen), packed(t, p), api.OK)
			p.ack = 6
			receivesNone(t, s, fmt.Sprintf("the life %d behind %d, with a wrong ack", life, seen), packed(t, p), api.OK)
		} else {
			receives(t, s, p)
			seen = life
		}
		wantSame(t, "PeerLife", s.PeerLife(), seen)
		wantSame(t, "Link", linkText(s.Link()), linkText(linkOf(5, 0, "a", "b", "c")))
	}
	s = fresh(t, s.Link())
	wantSame(t, "PeerLife of a session that began anew", s.PeerLife(), 0)
}

// P7.3: what Receive refuses, with which error, and that nothing has changed.
func TestReceiveRefuses(t *testing.T) {
	s := fresh(t, linkOf(5, 2, "a", "b"))
	receives(t, s, packet{1, 3, 3, 0, "x"})
	turned := packed(t, packet{1, 4, 3, 4, "x"})
	turned[len(turned)-1] ^= 1
	var five []byte
	for _, n := range []uint64{1, mostPacked + 1, 3, 4, 0} {
		five = bytes.Uint(five, n)
	}
	data0 := bytes.Blob([]byte{1, 4, 0, 4}, []byte("x"))
	for _, bad := range []struct {
		what string
		b    []byte
		e    api.Errno
	}{
		{"nothing", nil, api.ErrShort},
		{"no bytes", []byte{}, api.ErrShort},
		{"three bytes", []byte{1, 2, 3}, api.ErrShort},
		{"another sum", turned, api.ErrSum},
		{"bytes that are wanting", bytes.Seal([]byte{1, 4}), api.ErrShort},
		{"a number's second form", bytes.Seal([]byte{129, 0, 4, 3, 4, 0}), api.ErrBytes},
		{"bytes behind", bytes.Seal([]byte{1, 4, 3, 4, 0, 0}), api.ErrBytes},
		{"too much", make([]byte, mostData+65), api.ErrLong},
		{"too great a number", bytes.Seal(five), api.ErrMessage},
		{"bytes of no item", bytes.Seal(data0), api.ErrMessage},
		{"another one's, of bytes that are none", bytes.Seal([]byte{2, 4, 3, 4, 0, 0}), api.ErrBytes},
		{"its own", packed(t, packet{0, 4, 3, 4, "x"}), api.ErrArg},
		{"another one's", packed(t, packet{2, 4, 3, 4, "x"}), api.ErrArg},
		{"a great one's", packed(t, packet{mostPacked, 4, 3, 4, "x"}), api.ErrArg},
		{"another one's of an elder life", packed(t, packet{2, 1, 3, 4, "x"}), api.ErrArg},
		{"another one's with a wrong ack", packed(t, packet{2, 4, 3, 6, "x"}), api.ErrArg},
		{"a wrong ack", packed(t, packet{1, 3, 3, 6, "x"}), api.ErrSeq},
		{"a wrong ack of a later life", packed(t, packet{1, 9, 3, 6, "x"}), api.ErrSeq},
		{"a wrong ack without an item", packed(t, packet{1, 9, 0, 7, ""}), api.ErrSeq},
		{"a great ack", packed(t, packet{1, 3, 3, mostPacked, "x"}), api.ErrSeq},
		{"an elder life", packed(t, packet{1, 2, 3, 4, "x"}), api.OK},
		{"an elder life with a wrong ack", packed(t, packet{1, 2, 3, 6, "x"}), api.OK},
	} {
		receivesNone(t, s, bad.what, bad.b, bad.e)
		wantSame(t, bad.what+": Link", linkText(s.Link()), linkText(linkOf(5, 2, "a", "b")))
		wantSame(t, bad.what+": PeerLife", s.PeerLife(), 3)
		wantSame(t, bad.what+": Waiting", s.Waiting(), 2)
	}
	receives(t, s, packet{1, 3, 3, 0, "x"})
	want(t, "Accept", s.Accept(3), api.OK)
}

// P7.4: Accept takes the next number alone.
func TestAccept(t *testing.T) {
	s := fresh(t, linkOf(9, 3))
	for next := 4; next < 12; next++ {
		for _, seq := range append(outside(), 0, 1, next-2, next-1, next+1, next+2, next+8) {
			want(t, fmt.Sprintf("Accept(%d) at %d", seq, next), s.Accept(seq), api.ErrSeq)
		}
		want(t, fmt.Sprintf("Accept(%d)", next), s.Accept(next), api.OK)
		want(t, fmt.Sprintf("Accept(%d) again", next), s.Accept(next), api.ErrSeq)
		wantSame(t, "done", s.Link().Done, 3)
	}
}

// P7.4: Done takes what was accepted and is not done, with all below it.
func TestDone(t *testing.T) {
	for done := range 4 {
		for more := range 5 {
			for seq := -2; seq < 12; seq++ {
				s := fresh(t, linkOf(9, done, "a"))
				for i := range more {
					want(t, "Accept", s.Accept(done+1+i), api.OK)
				}
				wanted, e := done, api.ErrSeq
				if seq > done && seq <= done+more {
					wanted, e = seq, api.OK
				}
				want(t, fmt.Sprintf("Done(%d) at %d to %d", seq, done, done+more), s.Done(seq), e)
				wantSame(t, "Link", linkText(s.Link()), linkText(linkOf(9, wanted, "a")))
				want(t, "Accept of the next", s.Accept(done+more+1), api.OK)
				want(t, "Done of the next", s.Done(done+more+1), api.OK)
			}
		}
	}
	s := fresh(t, linkOf(0, 3))
	want(t, "Accept", s.Accept(4), api.OK)
	for _, seq := range outside() {
		want(t, fmt.Sprintf("Done(%d)", seq), s.Done(seq), api.ErrSeq)
		want(t, fmt.Sprintf("Accept(%d)", seq), s.Accept(seq), api.ErrSeq)
	}
}

// P7.1, P7.2, R3: what is handed in is not kept, nor changed, nor its spare room.
func TestHandedIn(t *testing.T) {
	room := []byte("abcXYZ")
	out := []api.Item{{Seq: 6, Data: room[:3]}, {Seq: 7, Data: room[:2]}, {Seq: 99}}
	s := fresh(t, api.Link{Last: 7, Out: out[:2]})
	out[0], out[1].Data = api.Item{}, nil
	copy(room, "......")
	wantSame(t, "Link", linkText(s.Link()), linkText(linkOf(7, 0, "abc", "ab")))
	sends(t, s, "new")
	wantSame(t, "the spare room", out[2].Seq, 99)

	copy(room, "defXYZ")
	_, e := s.Send(room[:3])
	want(t, "Send", e, api.OK)
	copy(room, "......")
	wantSame(t, "Link", linkText(s.Link()), linkText(linkOf(9, 0, "abc", "ab", "new", "def")))

	b := packed(t, packet{1, 1, 1, 6, "item"})
	was := string(b)
	x, _, _ := s.Receive(b)
	wantSame(t, "the packet", string(b), was)
	clear(b)
	wantSame(t, "the item", string(x.Data), "item")
	wantSame(t, "what was handed in", string(room), "......")
	wantSame(t, "the first one's number", out[0].Seq, 0)
}

// spoil writes over a list's bytes and its spare room.
func spoil(b []byte) {
	b = b[:cap(b)]
	for i := range b {
		b[i] = '#'
	}
}

// P7.1, R3: what is handed out is the caller's own.
func TestHandedOut(t *testing.T) {
	s := fresh(t, linkOf(7, 0, "abc", "def", "ghi"))
	kept, again := s.Link(), s.Link()
	for _, x := range again.Out {
		spoil(x.Data)
	}
	clear(again.Out[:cap(again.Out)])
	for _, b := range s.Packets() {
		spoil(b)
	}
	wantSame(t, "packets", fmt.Sprint(unpacked(s.Packets())), fmt.Sprint([]packet{{0, 5, 5, 0, "abc"}, {0, 5, 6, 0, "def"}, {0, 5, 7, 0, "ghi"}}))
	packets := s.Packets()
	spoil(packets[0])
	wantSame(t, "a packet beside one that was spoilt", string(packets[1]), string(packed(t, packet{0, 5, 6, 0, "def"})))

	b := packed(t, packet{1, 1, 1, 5, "item"})
	x, _, _ := s.Receive(b)
	spoil(x.Data)
	receives(t, s, packet{1, 1, 1, 5, "item"})
	wantSame(t, "the packet", string(b), string(packed(t, packet{1, 1, 1, 5, "item"})))

	sends(t, s, "new")
	wantSame(t, "the link that was told", linkText(kept), linkText(linkOf(7, 0, "abc", "def", "ghi")))
	wantSame(t, "Link", linkText(s.Link()), linkText(linkOf(8, 0, "def", "ghi", "new")))

	twin := fresh(t, kept)
	spoil(kept.Out[1].Data)
	wantSame(t, "the second one's link", linkText(twin.Link()), linkText(linkOf(7, 0, "abc", "def", "ghi")))
}

// R4: two sessions have nothing in common.
func TestApart(t *testing.T) {
	a, b := fresh(t, api.Link{}), fresh(t, api.Link{})
	sends(t, a, "a")
	receives(t, a, packet{1, 1, 1, 0, "x"})
	accepts(t, a, 1, 1)
	wantSame(t, "Link", linkText(b.Link()), linkText(api.Link{}))
	wantSame(t, "PeerLife", b.PeerLife(), 0)
	receives(t, b, packet{1, 0, 1, 0, "x"})
}

// R5: of a session that New did not make.
func TestNotMade(t *testing.T) {
	made := fresh(t, linkOf(7, 3, "a", "b"))
	receives(t, made, packet{1, 2, 4, 0, "x"})
	twin := *made
	for name, s := range map[string]*session.Session{"nil": nil, "zero": {}, "copy": &twin} {
		for range 2 {
			for _, data := range [][]byte{nil, []byte("x"), make([]byte, mostData+1)} {
				n, e := s.Send(data)
				want(t, name+": Send", e, api.ErrNil)
				wantSame(t, name+": Send", n, 0)
			}
			for what, b := range map[string][]byte{"nothing": nil, "what is too long": make([]byte, 2*mostData), "the next one": packed(t, packet{1, 2, 4, 6, "x"}), "what is its own": packed(t, packet{0, 0, 1, 0, "x"}), "another one's": packed(t, packet{2, 2, 4, 9, "x"})} {
				receivesNone(t, s, what+", of "+name, b, api.ErrNil)
			}
			for _, seq := range append(outside(), 0, 1, 4, 5) {
				want(t, name+": Accept", s.Accept(seq), api.ErrNil)
				want(t, name+": Done", s.Done(seq), api.ErrNil)
			}
			if p, l := s.Packets(), s.Link(); p != nil || l.Last != 0 || l.Done != 0 || l.Out != nil {
				t.Errorf("%s: Packets %v, Link %v", name, p, l)
			}
			wantSame(t, name+": Waiting", s.Waiting(), 0)
			wantSame(t, name+": PeerLife", s.PeerLife(), 0)
		}
	}
	wantSame(t, "Link", linkText(made.Link()), linkText(linkOf(7, 3, "a", "b")))
	receives(t, made, packet{1, 2, 4, 0, "x"})
}

// told is a session by the chapter's words.
type told struct {
	self, peer, life     int
	last, done, accepted int
	peerLife             int
	out                  map[int]string // what waits, by its number
}

// act is a call, and what is handed in.
type act struct {
	name string
	seq  int
	data string
	p    packet
}

func (a act) String() string {
	switch a.name {
	case "Send":
		return fmt.Sprintf("Send(%q)", a.data)
	case "Receive":
		return fmt.Sprintf("Receive(%+v)", a.p)
	case "New":
		return "New of its link"
	}
	return fmt.Sprintf("%s(%d)", a.name, a.seq)
}

// ofSession is the session behind the act (another one, if it begins anew), and what it answers.
func (a act) ofSession(t *testing.T, s *session.Session, life int) (*session.Session, string) {
	switch a.name {
	case "Send":
		n, e := s.Send([]byte(a.data))
		return s, fmt.Sprint(n, e)
	case "Receive":
		x, ok, e := s.Receive(packed(t, a.p))
		return s, fmt.Sprintf("%d %q %v %d", x.Seq, x.Data, ok, e)
	case "Accept":
		return s, fmt.Sprint(s.Accept(a.seq))
	case "Done":
		return s, fmt.Sprint(s.Done(a.seq))
	}
	s, e := session.New(0, 1, life+1, s.Link())
	return s, fmt.Sprint(e)
}

// ofTold is what is told of a session.
func (a act) ofTold(m *told) string {
	switch a.name {
	case "Send":
		if len(m.out) == mostWaiting {
			return fmt.Sprint(0, api.ErrFull)
		}
		m.last++
		m.out[m.last] = a.data
		return fmt.Sprint(m.last, api.OK)
	case "Receive":
		seq, data, ok, e := m.receive(a.p)
		return fmt.Sprintf("%d %q %v %d", seq, data, ok, e)
	case "Accept":
		if a.seq-m.accepted != 1 {
			return fmt.Sprint(api.ErrSeq)
		}
		m.accepted++
		return fmt.Sprint(api.OK)
	case "Done":
		if !(m.done < a.seq && a.seq <= m.accepted) {
			return fmt.Sprint(api.ErrSeq)
		}
		m.done = a.seq
		return fmt.Sprint(api.OK)
	}
	m.life, m.accepted, m.peerLife = m.life+1, m.done, 0
	return fmt.Sprint(api.OK)
}

// receive is what Receive of p does and answers.
func (m *told) receive(p packet) (int, string, bool, api.Errno) {
	if p.from != m.peer {
		return 0, "", false, api.ErrArg
	}
	if p.life < m.peerLife {
		return 0, "", false, api.OK
	}
	if p.ack > m.last {
		return 0, "", false, api.ErrSeq
	}
	m.peerLife = p.life
	maps.DeleteFunc(m.out, func(seq int, _ string) bool { return seq <= p.ack })
	if p.seq-m.accepted == 1 {
		return p.seq, p.data, true, api.OK
	}
	return 0, "", false, api.OK
}

// text is all that is to be seen of it.
func (m *told) text() string {
	seqs := slices.Sorted(maps.Keys(m.out))
	link := fmt.Sprintf("last %d done %d out", m.last, m.done)
	var packets []packet
	for i, seq := range seqs {
		link += fmt.Sprintf(" %d:%q", seq, m.out[seq])
		if i < 8 {
			packets = append(packets, packet{m.self, m.life, seq, m.done, m.out[seq]})
		}
	}
	if len(packets) == 0 {
		packets = []packet{{m.self, m.life, 0, m.done, ""}}
	}
	return fmt.Sprint(link, packets, len(seqs), m.peerLife)
}

// textOf is all that is to be seen of a session.
func textOf(s *session.Session) string {
	return fmt.Sprint(linkText(s.Link()), unpacked(s.Packets()), s.Waiting(), s.PeerLife())
}

// both are a session of the node 0 with the node 1, in its life 1, and what is told of it.
func both(t *testing.T, last, done int, waiting ...string) (*session.Session, *told) {
	t.Helper()
	s, e := session.New(0, 1, 1, linkOf(last, done, waiting...))
	want(t, "New", e, api.OK)
	m := &told{peer: 1, life: 1, last: last, done: done, accepted: done, out: map[int]string{}}
	for i, data := range waiting {
		m.out[last-len(waiting)+1+i] = data
	}
	return s, m
}

// doBoth does an act to a session and to what is told of it, and tells where they differ.
func doBoth(t *testing.T, s *session.Session, m *told, a act) (*session.Session, bool) {
	t.Helper()
	s, got := a.ofSession(t, s, m.life)
	wanted := a.ofTold(m)
	if text, wantedText := textOf(s), m.text(); got != wanted || text != wantedText {
		t.Errorf("%v: %s, then %.300s; want %s, %.300s", a, got, text, wanted, wantedText)
		return s, false
	}
	return s, true
}

// P7.1 to P7.4: all rows of few calls of each kind, against what the chapter's words make of them.
func TestAllShortRows(t *testing.T) {
	kinds := []act{{name: "Send", data: "x"}, {name: "New"}, {name: "Accept", seq: 3}, {name: "Accept", seq: 4}, {name: "Accept", seq: 5}, {name: "Done", seq: 3}, {name: "Done", seq: 4}, {name: "Done", seq: 5}}
	for _, p := range []packet{{1, 1, 3, 0, "a"}, {1, 1, 4, 7, "b"}, {1, 2, 5, 8, "c"}, {1, 2, 0, 9, ""}, {1, 0, 4, 6, "d"}, {2, 1, 4, 7, "e"}, {1, 3, 4, 10, "f"}} {
		kinds = append(kinds, act{name: "Receive", p: p})
	}
	const long = 4
	rows := 1
	for range long {
		rows *= len(kinds)
	}
	for row := range rows {
		s, m := both(t, 8, 3, "u", "v")
		var acts []act
		for range long {
			acts = append(acts, kinds[row%len(kinds)])
			row /= len(kinds)
			var ok bool
			if s, ok = doBoth(t, s, m, acts[len(acts)-1]); !ok {
				t.Fatal(acts)
			}
		}
	}
}

// oneOf is one of these, by chance.
func oneOf(r *rand.Rand, all ...int) int { return all[r.IntN(len(all))] }

// byChance is one act, with numbers about those of m.
func byChance(r *rand.Rand, m *told) act {
	switch r.IntN(12) {
	case 0, 1, 2:
		return act{name: "Send", data: fmt.Sprint(r.Uint32())[r.IntN(3):]}
	case 3, 4:
		return act{name: "Accept", seq: m.accepted + oneOf(r, 1, 1, 1, 0, 2, -1)}
	case 5, 6:
		return act{name: "Done", seq: m.done - 1 + r.IntN(m.accepted-m.done+3)}
	case 7:
		if r.IntN(4) == 0 {
			return act{name: "New"}
		}
	}
	life := max(m.peerLife+oneOf(r, 0, 0, 0, 1, 2, -1), 0)
	seq := max(m.accepted+oneOf(r, 1, 1, 0, 2, -1), 0)
	ack := max(m.last-len(m.out)-1+r.IntN(len(m.out)+3), 0)
	p := packet{1, life, seq, ack, ""}
	if r.IntN(8) == 0 {
		p.from = r.IntN(mostNodes)
	}
	if p.seq > 0 {
		p.data = fmt.Sprint(r.Uint32())[r.IntN(3):]
	}
	return act{name: "Receive", p: p}
}

// P7.1 to P7.4: long rows by chance (always the same), of sessions with few items, and of one that is full at times.
func TestLongRows(t *testing.T) {
	r := rand.New(rand.NewPCG(7, 1))
	for range 600 {
		s, m := both(t, r.IntN(20), r.IntN(20))
		for range 120 {
			var ok bool
			if s, ok = doBoth(t, s, m, byChance(r, m)); !ok {
				return
			}
		}
	}
	_, all := full(t)
	s, m := both(t, 5000, 70, all...)
	for range 400 {
		a := byChance(r, m)
		if a.p.ack > 0 && a.p.ack <= m.last && r.IntN(10) > 0 {
			a.p.ack = min(a.p.ack, m.last-mostWaiting+1)
		}
		var ok bool
		if s, ok = doBoth(t, s, m, a); !ok {
			return
		}
	}
}

// end is one end of a pair, what it was handed to send, and what came to it and was accepted.
type end struct {
	self, peer, life int
	s                *session.Session
	sent             []string
	came             []string // that was accepted, in this life or done in an elder one
	done             int      // how many of these are done
}

// begin is an end in its first life.
func begin(t *testing.T, self, peer int) *end {
	t.Helper()
	s, e := session.New(self, peer, 1, api.Link{})
	want(t, "New", e, api.OK)
	return &end{self: self, peer: peer, life: 1, s: s}
}

// send sends one more, unlike all others.
func (x *end) send(t *testing.T) {
	t.Helper()
	data := fmt.Sprint(x.self, " ", len(x.sent)+1)
	n, e := x.s.Send([]byte(data))
	if e == api.ErrFull && x.s.Waiting() == mostWaiting {
		return
	}
	x.sent = append(x.sent, data)
	if n != len(x.sent) || e != api.OK {
		t.Errorf("Send = %d, %d; want %d", n, e, len(x.sent))
	}
}

// receive takes a packet, and accepts what it tells, if it may.
func (x *end) receive(t *testing.T, b []byte, accept bool) {
	t.Helper()
	item, ok, e := x.s.Receive(b)
	want(t, "Receive", e, api.OK)
	if ok && accept {
		want(t, "Accept", x.s.Accept(item.Seq), api.OK)
		x.came = append(x.came, string(item.Data))
		wantSame(t, "the number that came", item.Seq, len(x.came))
	}
}

// finish does so many more of what came.
func (x *end) finish(t *testing.T, more int) {
	t.Helper()
	if more > 0 {
		x.done += more
		want(t, "Done", x.s.Done(x.done), api.OK)
	}
}

// anew begins anew with the link; what was not done is forgotten.
func (x *end) anew(t *testing.T, later int) {
	t.Helper()
	x.life += later
	s, e := session.New(x.self, x.peer, x.life, x.s.Link())
	want(t, "New", e, api.OK)
	x.s, x.came = s, x.came[:x.done]
}

// once tells whether what x has done is what y sent, each once and in order.
func once(t *testing.T, x, y *end) bool {
	t.Helper()
	wantSame(t, "done", x.s.Link().Done, x.done)
	if x.done > len(y.sent) || !slices.Equal(x.came[:x.done], y.sent[:x.done]) {
		t.Errorf("the end %d has done %q; sent was %q", x.self, x.came[:x.done], y.sent)
		return false
	}
	return true
}

// quiet brings all packets of both ends through, again and again, and tells in how many rounds nothing waits any more.
func quiet(t *testing.T, ends [2]*end, most int) int {
	t.Helper()
	for round := range most {
		if ends[0].s.Waiting()+ends[1].s.Waiting() == 0 {
			return round
		}
		for i, x := range ends {
			for _, b := range ends[1-i].s.Packets() {
				x.receive(t, b, true)
			}
			x.finish(t, len(x.came)-x.done)
		}
	}
	t.Errorf("behind %d rounds there wait %d and %d", most, ends[0].s.Waiting(), ends[1].s.Waiting())
	return most
}

// flight are packets on their way to each end, which may come late, or twice.
type flight [2][][]byte

// happen does one thing that may happen, by chance.
func (f *flight) happen(t *testing.T, r *rand.Rand, ends [2]*end) {
	t.Helper()
	i := r.IntN(2)
	x := ends[i]
	switch r.IntN(16) {
	case 0, 1, 2:
		x.send(t)
	case 3, 4, 5:
		f[1-i] = append(f[1-i], x.s.Packets()...)
	case 6, 7:
		x.finish(t, r.IntN(len(x.came)-x.done+1))
	case 8:
		if len(f[i]) > 0 && r.IntN(3) == 0 {
			k := r.IntN(len(f[i]))
			f[i] = append(f[i][:k], f[i][k+1:]...)
		}
	case 9:
		if r.IntN(4) == 0 {
			x.anew(t, 1+r.IntN(3))
		}
	default:
		if len(f[i]) > 0 {
			k := r.IntN(len(f[i]))
			x.receive(t, f[i][k], r.IntN(5) > 0)
			if r.IntN(2) == 0 {
				f[i] = append(f[i][:k], f[i][k+1:]...)
			}
		}
	}
}

// P7.5: whatever is lost, doubled or comes late, and however often both ends begin anew, each is done once and in order; and at last all is.
func TestOnce(t *testing.T) {
	r := rand.New(rand.NewPCG(7, 5))
	doneEarly := 0
	for range 300 {
		ends := [2]*end{begin(t, 3, 15), begin(t, 15, 3)}
		var f flight
		for range 50 + r.IntN(500) {
			f.happen(t, r, ends)
			if !once(t, ends[0], ends[1]) || !once(t, ends[1], ends[0]) {
				return
			}
		}
		doneEarly += ends[0].done + ends[1].done
		quiet(t, ends, max(ends[0].s.Waiting(), ends[1].s.Waiting())/window+4)
		for i, x := range ends {
			once(t, x, ends[1-i])
			wantSame(t, "all that is done", x.done, len(ends[1-i].sent))
			wantSame(t, "Link", linkText(x.s.Link()), linkText(linkOf(len(x.sent), x.done)))
		}
	}
	if doneEarly < 1000 {
		t.Errorf("only %d were done on the way", doneEarly)
	}
}

// P7.5: all is done in as many rounds as windows wait, and one for the last ack.
func TestAtLast(t *testing.T) {
	for _, many := range [][2]int{{0, 0}, {1, 0}, {0, 1}, {8, 8}, {9, 3}, {100, 7}, {mostWaiting, mostWaiting}} {
		ends := [2]*end{begin(t, 0, 1), begin(t, 1, 0)}
		for i, x := range ends {
			for range many[i] {
				x.send(t)
			}
		}
		most := (max(many[0], many[1]) + window - 1) / window
		if rounds := quiet(t, ends, most+3); rounds > most+1 {
			t.Errorf("%v sent: %d rounds", many, rounds)
		}
		for i, x := range ends {
			once(t, x, ends[1-i])
			wantSame(t, "all that is done", x.done, many[1-i])
		}
	}
}

// P7.5: an elder life's packet that comes late takes nothing away, and brings nothing twice.
func TestLate(t *testing.T) {
	a, b := begin(t, 0, 1), begin(t, 1, 0)
	a.send(t)
	elder := a.s.Packets()[0]
	a.anew(t, 1)
	a.send(t)
	for _, p := range a.s.Packets() {
		b.receive(t, p, true)
	}
	b.receive(t, elder, true)
	b.finish(t, 1)
	b.anew(t, 1)
	for range 2 {
		b.receive(t, elder, true)
	}
	wantSame(t, "what came", len(b.came), 1)
	quiet(t, [2]*end{a, b}, 3)
	once(t, b, a)
	wantSame(t, "all that is done", b.done, 2)
}
