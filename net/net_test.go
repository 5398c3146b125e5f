package net_test

import (
	"bytes"
	"fmt"
	"math"
	"math/rand/v2"
	"slices"
	"strings"
	"testing"

	"drover/api"
	"drover/net"
)

const (
	mostNodes  = 16
	mostFlying = 4096
	mostData   = 1<<20 + 64 // bytes of a datagram
)

// sent is a datagram as the tests tell it.
type sent struct {
	from, to int
	data     string
}

// fresh is a net of so many nodes.
func fresh(t *testing.T, nodes int) *net.Net {
	t.Helper()
	n, e := net.New(nodes)
	if n == nil || e != api.OK {
		t.Fatalf("New(%d) = %v, %d", nodes, n, e)
	}
	return n
}

// filled is a net of so many nodes with these on their way.
func filled(t *testing.T, nodes int, row ...sent) *net.Net {
	t.Helper()
	n := fresh(t, nodes)
	for _, s := range row {
		want(t, "Send", n.Send(s.from, s.to, []byte(s.data)), api.OK)
	}
	holds(t, n, row...)
	return n
}

// full is a net of two nodes with the most on their way, each with its number as its bytes.
func full(t *testing.T) (*net.Net, []sent) {
	t.Helper()
	var row []sent
	for i := range mostFlying {
		row = append(row, sent{i % 2, i / 2 % 2, fmt.Sprint(i)})
	}
	return filled(t, 2, row...), row
}

// want tells what a call answered, if it was not that.
func want(t *testing.T, call string, got, e api.Errno) {
	t.Helper()
	if got != e {
		t.Errorf("%s: error %d, want %d", call, got, e)
	}
}

// gives tells what a Look or Take answered, if it was not that one.
func gives(t *testing.T, call string, g api.Gram, ok bool, s sent) {
	t.Helper()
	if !ok || g.From != s.from || g.To != s.to || string(g.Data) != s.data {
		t.Errorf("%s = %d to %d %.40q, %v; want %d to %d %.40q", call, g.From, g.To, g.Data, ok, s.from, s.to, s.data)
	}
}

// givesNone tells what a Look or Take answered, if it was not nothing and false.
func givesNone(t *testing.T, call string, g api.Gram, ok bool) {
	t.Helper()
	if ok || g.From != 0 || g.To != 0 || g.Data != nil {
		t.Errorf("%s = %+v, %v; want none", call, g, ok)
	}
}

// rowOf are those that are on their way, by Look.
func rowOf(n *net.Net) []sent {
	var row []sent
	for i := range n.Flying() {
		g, _ := n.Look(i)
		row = append(row, sent{g.From, g.To, string(g.Data)})
	}
	return row
}

// holds tells what is on its way, if it is not these, in this order, and no more.
func holds(t *testing.T, n *net.Net, row ...sent) {
	t.Helper()
	if got := rowOf(n); !slices.Equal(got, row) {
		t.Errorf("on their way are %.300s; want %.300s", fmt.Sprint(got), fmt.Sprint(row))
	}
	for i, s := range row {
		g, ok := n.Look(i)
		gives(t, fmt.Sprintf("Look(%d)", i), g, ok, s)
	}
	for _, i := range []int{-1, len(row)} {
		g, ok := n.Look(i)
		givesNone(t, fmt.Sprintf("Look(%d)", i), g, ok)
	}
}

// outside are places where none of so many is.
func outside(many int) []int {
	return []int{-1, -2, math.MinInt, many, many + 1, many + mostFlying, 1 << 32, math.MaxInt}
}

// The chapter's examples.
func TestExamples(t *testing.T) {
	a, b := sent{0, 1, "a"}, sent{1, 0, "b"}
	n := filled(t, 2, a, b)
	want(t, "Copy", n.Copy(0), api.OK)
	holds(t, n, a, b, a)
	g, ok := n.Take(1)
	gives(t, "Take(1)", g, ok, b)
	if !n.Drop(0) {
		t.Error("Drop(0) = false")
	}
	if got := n.Forget(1); got != 1 {
		t.Errorf("Forget(1) = %d", got)
	}
	holds(t, n)
}

// P6.1: New.
func TestNew(t *testing.T) {
	for _, nodes := range []int{0, -1, -16, math.MinInt, mostNodes + 1, mostNodes + 2, 100, 1 << 32, 1<<32 + 1, math.MaxInt} {
		if n, e := net.New(nodes); n != nil || e != api.ErrArg {
			t.Errorf("New(%d) = %v, %d", nodes, n, e)
		}
	}
	for nodes := 1; nodes <= mostNodes; nodes++ {
		holds(t, fresh(t, nodes))
	}
	a, b := fresh(t, 2), fresh(t, 2)
	want(t, "Send", a.Send(0, 1, []byte("a")), api.OK)
	holds(t, a, sent{0, 1, "a"})
	holds(t, b)
}

// P6.1: who may send to whom: any node of the net to any, itself as well.
func TestSend(t *testing.T) {
	for _, nodes := range []int{1, 2, 3, 15, mostNodes} {
		n := fresh(t, nodes)
		var row []sent
		ends := []int{math.MinInt, -nodes, -1, nodes, nodes + 1, 1 << 32, math.MaxInt}
		for node := range nodes {
			ends = append(ends, node)
		}
		for _, from := range ends {
			for _, to := range ends {
				s, e := sent{from, to, fmt.Sprint(from, to)}, api.ErrArg
				if from >= 0 && from < nodes && to >= 0 && to < nodes {
					row, e = append(row, s), api.OK
				}
				want(t, fmt.Sprintf("%d nodes: Send(%d, %d)", nodes, from, to), n.Send(from, to, []byte(s.data)), e)
			}
		}
		if len(row) != nodes*nodes {
			t.Errorf("%d nodes: %d sent", nodes, len(row))
		}
		holds(t, n, row...)
	}
}

// P6.1, P6.3: what is sent: any bytes, or none, each sent one the last.
func TestData(t *testing.T) {
	n := fresh(t, 2)
	want(t, "Send of nil", n.Send(1, 0, nil), api.OK)
	want(t, "Send of none", n.Send(0, 1, []byte{}), api.OK)
	row := []sent{{1, 0, ""}, {0, 1, ""}}
	holds(t, n, row...)
	for _, data := range []string{"\x00", "a", "a", "\xff\xfe\x80", "\xc3\xa4", strings.Repeat("xyz", 1000), "a\n\x00b"} {
		s := sent{0, 1, data}
		want(t, "Send", n.Send(s.from, s.to, []byte(s.data)), api.OK)
		row = append(row, s)
		holds(t, n, row...)
	}
	for len(row) > 0 {
		g, ok := n.Take(0)
		gives(t, "Take(0)", g, ok, row[0])
		row = row[1:]
	}
	holds(t, n)
}

// P6.1, limits: the longest datagrams, and longer ones.
func TestLongest(t *testing.T) {
	all := strings.Repeat("0123456789abcdef", mostData/16)
	n := fresh(t, 2)
	for _, more := range []int{1, 2, 64, 1 << 20, 1 << 24} {
		want(t, fmt.Sprintf("Send of %d bytes too much", more), n.Send(0, 1, make([]byte, mostData+more)), api.ErrLong)
		holds(t, n)
	}
	row := []sent{{0, 1, all}, {1, 0, all[1:]}, {0, 0, all[64:]}, {1, 1, all[63:]}}
	for _, s := range row {
		want(t, "Send of the longest", n.Send(s.from, s.to, []byte(s.data)), api.OK)
	}
	holds(t, n, row...)
	want(t, "Copy of the longest", n.Copy(0), api.OK)
	g, ok := n.Take(4)
	gives(t, "Take(4)", g, ok, row[0])
	holds(t, n, row...)
}

// P6.1, P6.2, limits: 4096 are on their way at most, sent or doubled; where one goes there is room for one.
func TestFull(t *testing.T) {
	n, row := full(t)
	refuses := func() {
		t.Helper()
		want(t, "Send at most", n.Send(0, 1, []byte("x")), api.ErrFull)
		want(t, "Send of none at most", n.Send(1, 1, nil), api.ErrFull)
		want(t, "Copy at most", n.Copy(0), api.ErrFull)
		want(t, "Copy of the last at most", n.Copy(mostFlying-1), api.ErrFull)
		holds(t, n, row...)
	}
	refuses()
	n.Drop(100)
	row = slices.Delete(row, 100, 101)
	want(t, "Send", n.Send(1, 1, []byte("y")), api.OK)
	row = append(row, sent{1, 1, "y"})
	refuses()
	n.Take(mostFlying - 1)
	row = row[:mostFlying-1]
	want(t, "Copy", n.Copy(7), api.OK)
	row = append(row, row[7])
	refuses()

	had := len(row)
	row = slices.DeleteFunc(row, func(s sent) bool { return s.to == 1 })
	if got := n.Forget(1); got != had-len(row) {
		t.Errorf("Forget(1) = %d, want %d", got, had-len(row))
	}
	holds(t, n, row...)
	for len(row) < mostFlying {
		want(t, "Copy", n.Copy(len(row)-1), api.OK)
		row = append(row, row[len(row)-1])
	}
	refuses()
}

// The errors' order.
func TestErrorsOrder(t *testing.T) {
	long := make([]byte, mostData+1)
	n, row := full(t)
	var none *net.Net
	want(t, "no net, no nodes, too long: Send", none.Send(-1, 99, long), api.ErrNil)
	want(t, "no net: Copy", none.Copy(-1), api.ErrNil)
	for _, ends := range [][2]int{{0, 2}, {2, 0}, {-1, 1}, {1, -1}, {5, 5}} {
		want(t, "no nodes, too long, full: Send", n.Send(ends[0], ends[1], long), api.ErrArg)
		want(t, "no nodes, full: Send", n.Send(ends[0], ends[1], []byte("a")), api.ErrArg)
		want(t, "no nodes, too long: Send", fresh(t, 2).Send(ends[0], ends[1], long), api.ErrArg)
	}
	want(t, "too long, full: Send", n.Send(0, 1, long), api.ErrLong)
	want(t, "full: Send", n.Send(0, 1, long[1:]), api.ErrFull)
	for _, i := range outside(mostFlying) {
		want(t, fmt.Sprintf("none, full: Copy(%d)", i), n.Copy(i), api.ErrArg)
	}
	want(t, "full: Copy", n.Copy(0), api.ErrFull)
	holds(t, n, row...)
}

// P6.2: Look, Take, Copy and Drop of each of a few, and where there is none.
func TestEach(t *testing.T) {
	all := []sent{{0, 1, "a"}, {1, 0, "b"}, {2, 2, ""}, {0, 1, "a"}, {2, 1, "e"}}
	for many := range len(all) + 1 {
		row := all[:many]
		for i, s := range row {
			left := append(slices.Clone(row[:i]), row[i+1:]...)
			n := filled(t, 3, row...)
			g, ok := n.Look(i)
			gives(t, fmt.Sprintf("Look(%d)", i), g, ok, s)
			holds(t, n, row...)
			want(t, fmt.Sprintf("Copy(%d)", i), n.Copy(i), api.OK)
			holds(t, n, append(slices.Clone(row), s)...)
			g, ok = n.Take(i)
			gives(t, fmt.Sprintf("Take(%d)", i), g, ok, s)
			holds(t, n, append(slices.Clone(left), s)...)

			n = filled(t, 3, row...)
			if !n.Drop(i) {
				t.Errorf("Drop(%d) = false", i)
			}
			holds(t, n, left...)
		}
		n := filled(t, 3, row...)
		for _, i := range outside(many) {
			g, ok := n.Look(i)
			givesNone(t, fmt.Sprintf("Look(%d)", i), g, ok)
			g, ok = n.Take(i)
			givesNone(t, fmt.Sprintf("Take(%d)", i), g, ok)
			want(t, fmt.Sprintf("Copy(%d)", i), n.Copy(i), api.ErrArg)
			if n.Drop(i) {
				t.Errorf("Drop(%d) = true", i)
			}
			holds(t, n, row...)
		}
	}
}

// P6.2: Forget takes away what is on its way to a node, not what comes from it; of what is no node there is nothing.
func TestForget(t *testing.T) {
	all := []sent{{0, 1, "a"}, {1, 0, "b"}, {1, 1, "c"}, {2, 0, "d"}, {0, 1, "e"}, {0, 2, "f"}, {2, 1, "g"}}
	for many := range len(all) + 1 {
		for _, node := range []int{0, 1, 2, 3, 15, 16, -1, math.MinInt, math.MaxInt} {
			n := filled(t, 4, all[:many]...)
			var left []sent
			for _, s := range all[:many] {
				if s.to != node {
					left = append(left, s)
				}
			}
			if got := n.Forget(node); got != many-len(left) {
				t.Errorf("Forget(%d) = %d, want %d", node, got, many-len(left))
			}
			holds(t, n, left...)
			if got := n.Forget(node); got != 0 {
				t.Errorf("Forget(%d) again = %d", node, got)
			}
			want(t, "Send", n.Send(3, 1, []byte("new")), api.OK)
			holds(t, n, append(left, sent{3, 1, "new"})...)
		}
	}
}

// P6.1: a datagram's bytes are in memory of their own; R3: what is handed in is not changed, nor its spare room.
func TestHandedIn(t *testing.T) {
	n := fresh(t, 2)
	room := []byte("abcXYZ")
	want(t, "Send", n.Send(0, 1, room[:3]), api.OK)
	copy(room, "......")
	holds(t, n, sent{0, 1, "abc"})
	want(t, "Send", n.Send(0, 1, room[:2]), api.OK)
	want(t, "Copy", n.Copy(1), api.OK)
	n.Take(1)
	if string(room) != "......" {
		t.Errorf("what was handed in is now %q", room)
	}
	holds(t, n, sent{0, 1, "abc"}, sent{0, 1, ".."})
}

// P6.2: Look's and Take's bytes are the caller's own, of those that are doubled as well.
func TestHandedOut(t *testing.T) {
	s := sent{0, 1, "abcdef"}
	n := filled(t, 2, s)
	want(t, "Copy", n.Copy(0), api.OK)
	want(t, "Copy of a copy", n.Copy(1), api.OK)
	var out [][]byte
	keep := func(g api.Gram, ok bool) {
		gives(t, "Look or Take", g, ok, s)
		out = append(out, g.Data)
	}
	for i := range 3 {
		keep(n.Look(i))
		keep(n.Look(i))
	}
	for i := 2; i >= 0; i-- {
		keep(n.Take(i))
		want(t, "Send", n.Send(0, 1, []byte("ghijkl")), api.OK)
	}
	for i, b := range out {
		if string(b) != s.data {
			t.Errorf("answer %d is now %q", i, b)
		}
		b = append(b, bytes.Repeat([]byte("!"), cap(b)-len(b))...)
		copy(b, "######")
	}
	for range 3 {
		g, ok := n.Take(0)
		gives(t, "Take(0)", g, ok, sent{0, 1, "ghijkl"})
	}

	n = filled(t, 2, s)
	want(t, "Copy", n.Copy(0), api.OK)
	g, _ := n.Look(0)
	clear(g.Data[:cap(g.Data)])
	g, _ = n.Take(0)
	clear(g.Data[:cap(g.Data)])
	holds(t, n, s)
}

// R5: of a net that New did not make.
func TestNotMade(t *testing.T) {
	row := []sent{{0, 1, "a"}, {1, 0, "b"}}
	made := filled(t, 2, row...)
	twin := *made
	for name, n := range map[string]*net.Net{"nil": nil, "zero": {}, "copy": &twin} {
		for range 2 {
			want(t, name+": Send", n.Send(0, 1, []byte("c")), api.ErrNil)
			want(t, name+": Send of no nodes", n.Send(-1, 16, nil), api.ErrNil)
			want(t, name+": Send of too much", n.Send(0, 0, make([]byte, mostData+1)), api.ErrNil)
			for _, i := range []int{0, 1, 2, -1, math.MaxInt} {
				want(t, fmt.Sprintf("%s: Copy(%d)", name, i), n.Copy(i), api.ErrNil)
				g, ok := n.Look(i)
				givesNone(t, name+": Look", g, ok)
				g, ok = n.Take(i)
				givesNone(t, name+": Take", g, ok)
				if n.Drop(i) || n.Forget(i) != 0 {
					t.Errorf("%s: Drop or Forget(%d) did something", name, i)
				}
			}
			if n.Flying() != 0 {
				t.Errorf("%s: Flying = %d", name, n.Flying())
			}
		}
	}
	holds(t, made, row...)
}

// told is a net by the chapter's words.
type told struct {
	nodes int
	row   []sent
}

// act is a call, and what is handed in.
type act struct {
	name string
	a, b int
	data string
}

func (a act) String() string { return fmt.Sprintf("%s(%d, %d, %q)", a.name, a.a, a.b, a.data) }

// answer is a Look's or Take's answer as a text.
func answer(from, to int, data string, ok bool) string {
	return fmt.Sprint(from, " ", to, " ", data, " ", ok)
}

// ofNet is what the net answers.
func (a act) ofNet(n *net.Net) string {
	switch a.name {
	case "Send":
		return fmt.Sprint(n.Send(a.a, a.b, []byte(a.data)))
	case "Look":
		g, ok := n.Look(a.a)
		return answer(g.From, g.To, string(g.Data), ok)
	case "Take":
		g, ok := n.Take(a.a)
		return answer(g.From, g.To, string(g.Data), ok)
	case "Copy":
		return fmt.Sprint(n.Copy(a.a))
	case "Drop":
		return fmt.Sprint(n.Drop(a.a))
	}
	return fmt.Sprint(n.Forget(a.a))
}

// ofTold is what is told of a net.
func (a act) ofTold(m *told) string {
	none := a.a < 0 || a.a >= len(m.row)
	switch {
	case a.name == "Send" && (min(a.a, a.b) < 0 || max(a.a, a.b) >= m.nodes):
		return fmt.Sprint(api.ErrArg)
	case a.name == "Copy" && none:
		return fmt.Sprint(api.ErrArg)
	case (a.name == "Send" || a.name == "Copy") && len(m.row) == mostFlying:
		return fmt.Sprint(api.ErrFull)
	case a.name == "Send":
		m.row = append(m.row, sent{a.a, a.b, a.data})
		return fmt.Sprint(api.OK)
	case a.name == "Copy":
		m.row = append(m.row, m.row[a.a])
		return fmt.Sprint(api.OK)
	case a.name == "Forget":
		left := m.without(func(_ int, s sent) bool { return s.to == a.a })
		gone := len(m.row) - len(left)
		m.row = left
		return fmt.Sprint(gone)
	case a.name == "Drop" && none:
		return fmt.Sprint(false)
	case none:
		return answer(0, 0, "", false)
	}
	s := m.row[a.a]
	if a.name != "Look" {
		m.row = m.without(func(i int, _ sent) bool { return i == a.a })
	}
	if a.name == "Drop" {
		return fmt.Sprint(true)
	}
	return answer(s.from, s.to, s.data, true)
}

// without are those that are not gone, in order.
func (m *told) without(gone func(i int, s sent) bool) []sent {
	var left []sent
	for i, s := range m.row {
		if !gone(i, s) {
			left = append(left, s)
		}
	}
	return left
}

// both does acts to a net and to what is told of one, and tells where they differ.
func both(t *testing.T, n *net.Net, m *told, acts []act) bool {
	t.Helper()
	for i, a := range acts {
		got, wanted := a.ofNet(n), a.ofTold(m)
		if row := rowOf(n); got != wanted || !slices.Equal(row, m.row) {
			t.Errorf("%d nodes, %v: %s, on their way %.300s; want %s, %.300s", m.nodes, acts[:i+1], got, fmt.Sprint(row), wanted, fmt.Sprint(m.row))
			return false
		}
	}
	return true
}

// P6.1 to P6.3: all rows of few calls of each kind, against what the chapter's words make of them.
func TestAllShortRows(t *testing.T) {
	kinds := []act{{name: "Send", b: 1, data: "x"}, {name: "Send", a: 1, data: "y"}, {name: "Send", b: 2}, {name: "Look", a: 1}, {name: "Take"}, {name: "Take", a: 1}, {name: "Take", a: -1}, {name: "Copy"}, {name: "Copy", a: 1}, {name: "Copy", a: 3}, {name: "Drop"}, {name: "Drop", a: 2}, {name: "Forget"}, {name: "Forget", a: 1}, {name: "Forget", a: 2}}
	const long = 4
	rows := 1
	for range long {
		rows *= len(kinds)
	}
	for row := range rows {
		acts := []act{{name: "Send", b: 1, data: "a"}, {name: "Send", a: 1, data: "b"}}
		for range long {
			acts = append(acts, kinds[row%len(kinds)])
			row /= len(kinds)
		}
		if !both(t, fresh(t, 2), &told{nodes: 2}, acts) {
			return
		}
	}
}

// byChance is one act, of a net of so many nodes with so many on their way, more or less.
func byChance(r *rand.Rand, nodes, many int) act {
	names := []string{"Send", "Send", "Send", "Send", "Look", "Take", "Take", "Copy", "Copy", "Drop", "Forget"}
	a := act{name: names[r.IntN(len(names))], a: r.IntN(many+3) - 1}
	switch a.name {
	case "Send":
		a.a, a.b, a.data = r.IntN(nodes+2)-1, r.IntN(nodes+2)-1, fmt.Sprint(r.Uint64())
	case "Forget":
		a.a = r.IntN(nodes+2) - 1
	}
	return a
}

// P6.1 to P6.3: long rows by chance (always the same), of nets that are small, and of one that is full at times.
func TestLongRows(t *testing.T) {
	r := rand.New(rand.NewPCG(6, 1))
	for range 1000 {
		nodes := 1 + r.IntN(mostNodes)
		acts := make([]act, 80)
		for i := range acts {
			acts[i] = byChance(r, nodes, 10)
		}
		if !both(t, fresh(t, nodes), &told{nodes: nodes}, acts) {
			return
		}
	}
	n, row := full(t)
	m := &told{nodes: 2, row: row}
	for range 300 {
		a := byChance(r, 2, mostFlying)
		if a.name == "Forget" && r.IntN(10) > 0 {
			continue
		}
		if !both(t, n, m, []act{a}) {
			return
		}
	}
}
