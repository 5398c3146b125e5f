package value_test

import (
	"fmt"
	"math"
	"math/rand/v2"
	"reflect"
	"slices"
	"strings"
	"testing"

	"drover/api"
	"drover/bytes"
	"drover/value"
)

func number(n int64) api.Value            { return api.Value{Kind: api.VInt, N: n} }
func truth(n int64) api.Value             { return api.Value{Kind: api.VBool, N: n} }
func text(s string) api.Value             { return api.Value{Kind: api.VBytes, S: s} }
func actor(n int64) api.Value             { return api.Value{Kind: api.VActor, N: n} }
func tuple(l ...api.Value) api.Value      { return api.Value{Kind: api.VTuple, L: l} }
func many(n int, v api.Value) []api.Value { return slices.Repeat([]api.Value{v}, n) }

// deep is v within so many tuples.
func deep(n int, v api.Value) api.Value {
	for range n {
		v = tuple(v)
	}
	return v
}

// round is a tuple whose parts are itself.
func round(n int) api.Value {
	l := make([]api.Value, n)
	for i := range l {
		l[i] = tuple(l...)
	}
	return api.Value{Kind: api.VTuple, L: l}
}

// rightOnes are right values at all edges that the chapter names.
func rightOnes() []api.Value {
	var every strings.Builder
	for i := range 256 {
		every.WriteByte(byte(i))
	}
	return []api.Value{
		number(0), number(1), number(-1), number(63), number(-64), number(64), number(math.MaxInt64), number(math.MinInt64),
		truth(0), truth(1),
		text(""), text("a"), text("ab"), text("a\""), text("\\22"), text(every.String()), text(strings.Repeat("x", 127)), text(strings.Repeat("x", 128)), text(strings.Repeat("x", api.MaxBytes)),
		actor(0), actor(1), actor(3), actor(1<<32 + 1), actor(math.MaxInt64),
		tuple(), {Kind: api.VTuple, L: []api.Value{}}, tuple(number(1)), tuple(tuple()), tuple(truth(1), actor(3)), tuple(number(1), text("1"), tuple(number(1), number(2))),
		deep(15, number(7)), deep(15, tuple()), deep(15, text(strings.Repeat("y", api.MaxBytes))),
		tuple(many(255, number(5))...), tuple(many(255, tuple())...), tuple(many(255, text(strings.Repeat("z", api.MaxBytes)))...),
		tuple(many(127, tuple(number(1)))...), tuple(many(85, tuple(truth(0), truth(1)))...), deep(14, tuple(many(241, number(1))...)),
	}
}

// wrongOnes are values that are right but for one thing.
func wrongOnes() []api.Value {
	other := []api.Value{number(0)}
	wrong := []api.Value{
		{}, {Kind: 6}, {Kind: 255, N: 1}, {Kind: 0, N: 1, S: "a", L: other},
		{Kind: api.VInt, S: "a"}, {Kind: api.VInt, L: other},
		truth(2), truth(-1), truth(256), truth(math.MinInt64), {Kind: api.VBool, S: "a"}, {Kind: api.VBool, N: 1, L: other},
		text(strings.Repeat("x", api.MaxBytes+1)), {Kind: api.VBytes, N: 1}, {Kind: api.VBytes, S: "a", N: -1}, {Kind: api.VBytes, S: "a", L: other},
		actor(-1), actor(math.MinInt64), {Kind: api.VActor, N: 1, S: "a"}, {Kind: api.VActor, L: other},
		{Kind: api.VTuple, N: 1}, {Kind: api.VTuple, S: "a"}, {Kind: api.VTuple, N: -1, L: other}, {Kind: api.VTuple, S: "a", L: other},
		deep(16, number(7)), deep(16, tuple()), deep(1000, number(7)), tuple(number(1), deep(15, tuple())),
		tuple(many(256, number(5))...), tuple(many(1000, number(5))...), tuple(many(128, tuple(number(1)))...), tuple(append(many(85, tuple(truth(0), truth(1))), number(1))...), deep(14, tuple(many(242, number(1))...)),
		round(1), round(2), round(1000),
	}
	for _, w := range wrong[:24] {
		wrong = append(wrong, tuple(w), tuple(number(1), tuple(), w), deep(15, w))
	}
	return wrong
}

// chance is a right value of at most so many levels and pieces, by chance (always the same).
func chance(r *rand.Rand, levels int, pieces *int) api.Value {
	*pieces--
	switch kind := r.IntN(6); {
	case kind == 0:
		return number(int64(r.Uint64()) >> r.IntN(64))
	case kind == 1:
		return truth(r.Int64N(2))
	case kind == 2:
		b := make([]byte, r.IntN(6))
		for i := range b {
			b[i] = `a"\2`[r.IntN(4)]
			if r.IntN(4) == 0 {
				b[i] = byte(r.Uint32())
			}
		}
		return text(string(b))
	case kind == 3:
		return actor(int64(r.Uint64()>>1) >> r.IntN(63))
	case levels == 1:
		return tuple()
	}
	v := tuple()
	for range r.IntN(5) {
		if *pieces > 0 {
			v.L = append(v.L, chance(r, levels-1, pieces))
		}
	}
	return v
}

// manyByChance are so many of these, of all sizes.
func manyByChance(n int) []api.Value {
	r := rand.New(rand.NewPCG(1, 2))
	vs := make([]api.Value, n)
	for i := range vs {
		pieces := 1 + r.IntN(api.MaxPieces)
		vs[i] = chance(r, 1+r.IntN(api.MaxDeep), &pieces)
	}
	return vs
}

// brief is v as far as it is of use in a test's answer.
func brief(v any) string {
	s := fmt.Sprint(v)
	return s[:min(len(s), 200)]
}

func put(t *testing.T, v api.Value) []byte {
	t.Helper()
	b, e := value.Put(nil, v)
	if e != api.OK {
		t.Fatal(brief(v), e)
	}
	return b
}

// alike tells whether a and b are one value, field by field.
func alike(a, b api.Value) bool {
	return a.Kind == b.Kind && a.N == b.N && a.S == b.S && slices.EqualFunc(a.L, b.L, alike)
}

// P2.1: right values, and what is put.

func TestRight(t *testing.T) {
	for i, v := range rightOnes() {
		if !value.Right(v) {
			t.Error(i, brief(v))
		}
	}
	for i, v := range wrongOnes() {
		if value.Right(v) {
			t.Error("wrong one", i)
		}
	}
	for _, v := range manyByChance(2000) {
		if !value.Right(v) {
			t.Error(brief(v))
		}
	}
}

func TestRightOfEachKind(t *testing.T) {
	for k := range 256 {
		kind := api.Kind(k)
		if got, want := value.Right(api.Value{Kind: kind}), k >= 1 && k <= 5; got != want {
			t.Error(k, got)
		}
		if got, want := value.Right(api.Value{Kind: kind, N: 2}), k == 1 || k == 5; got != want {
			t.Error(k, got)
		}
		if got, want := value.Right(api.Value{Kind: kind, S: "a"}), k == 3; got != want {
			t.Error(k, got)
		}
		if got, want := value.Right(tuple(api.Value{Kind: kind, L: []api.Value{number(1)}})), k == 4; got != want {
			t.Error(k, got)
		}
	}
}

func TestPut(t *testing.T) {
	for _, x := range []struct {
		v    api.Value
		want []byte
	}{
		{number(-1), []byte{1, 1}},
		{number(0), []byte{1, 0}},
		{number(64), []byte{1, 128, 1}},
		{number(math.MinInt64), []byte{1, 255, 255, 255, 255, 255, 255, 255, 255, 255, 1}},
		{truth(0), []byte{2, 0}},
		{truth(1), []byte{2, 1}},
		{text(""), []byte{3, 0}},
		{text("ab"), []byte{3, 2, 97, 98}},
		{text(strings.Repeat("\x00", 4096)), append([]byte{3, 128, 32}, make([]byte, 4096)...)},
		{tuple(), []byte{4, 0}},
		{tuple(truth(1), actor(3)), []byte{4, 2, 2, 1, 5, 6}},
		{tuple(tuple(tuple(), number(1)), text("a")), []byte{4, 2, 4, 2, 4, 0, 1, 2, 3, 1, 97}},
		{tuple(many(255, truth(0))...), append([]byte{4, 255, 1}, slices.Repeat([]byte{2, 0}, 255)...)},
		{deep(15, number(1)), append(slices.Repeat([]byte{4, 1}, 15), 1, 2)},
		{actor(0), []byte{5, 0}},
		{actor(3), []byte{5, 6}},
		{actor(math.MaxInt64), []byte{5, 254, 255, 255, 255, 255, 255, 255, 255, 255, 1}},
	} {
		for _, out := range [][]byte{nil, {}, {9, 0, 255}} {
			got, e := value.Put(out, x.v)
			if e != api.OK || !slices.Equal(got, append(slices.Clone(out), x.want...)) {
				t.Error(brief(x.v), out, brief(got), e)
			}
		}
	}
}

func TestPutOfWrongOnes(t *testing.T) {
	for i, v := range wrongOnes() {
		room := slices.Repeat([]byte{77}, 64)
		if b, e := value.Put(room[:3], v); b != nil || e != api.ErrValue {
			t.Error(i, b, e)
		}
		if !slices.Equal(room, slices.Repeat([]byte{77}, 64)) {
			t.Error(i, room)
		}
	}
}

// P2.2: what is got.

func TestGet(t *testing.T) {
	for _, x := range []struct {
		b    []byte
		at   int
		want api.Value
		next int
	}{
		{[]byte{1, 1}, 0, number(-1), 2},
		{[]byte{9, 1, 172, 2, 9}, 1, number(150), 4},
		{[]byte{2, 0, 9}, 0, truth(0), 2},
		{[]byte{2, 1}, 0, truth(1), 2},
		{[]byte{3, 0}, 0, text(""), 2},
		{[]byte{1, 3, 2, 97, 98, 9}, 1, text("ab"), 5},
		{append([]byte{3, 128, 32}, make([]byte, 4096)...), 0, text(strings.Repeat("\x00", 4096)), 4099},
		{[]byte{4, 0, 9}, 0, tuple(), 2},
		{[]byte{4, 2, 2, 1, 5, 6}, 0, tuple(truth(1), actor(3)), 6},
		{[]byte{4, 2, 2, 1, 5, 6}, 2, truth(1), 4},
		{[]byte{5, 254, 255, 255, 255, 255, 255, 255, 255, 255, 1}, 0, actor(math.MaxInt64), 11},
		{append([]byte{4, 255, 1}, slices.Repeat([]byte{2, 0}, 255)...), 0, tuple(many(255, truth(0))...), 513},
		{append(slices.Repeat([]byte{4, 1}, 15), 4, 0), 0, deep(15, tuple()), 32},
	} {
		v, next, e := value.Get(x.b, x.at)
		if !alike(v, x.want) || next != x.next || e != api.OK {
			t.Error(brief(x.b), x.at, brief(v), next, e)
		}
	}
}

func TestGetOfWrongBytes(t *testing.T) {
	nines := slices.Repeat([]byte{128}, 9)
	for i, x := range []struct {
		b  []byte
		at int
		e  api.Errno
	}{
		{nil, -1, api.ErrArg},
		{nil, 1, api.ErrArg},
		{[]byte{1, 1}, -1, api.ErrArg},
		{[]byte{1, 1}, 3, api.ErrArg},
		{[]byte{1, 1}, math.MinInt, api.ErrArg},
		{[]byte{1, 1}, math.MaxInt, api.ErrArg},
		{nil, 0, api.ErrShort},
		{[]byte{1, 1}, 2, api.ErrShort},
		{[]byte{1}, 0, api.ErrShort},
		{[]byte{1, 128}, 0, api.ErrShort},
		{[]byte{2}, 0, api.ErrShort},
		{[]byte{3}, 0, api.ErrShort},
		{[]byte{3, 1}, 0, api.ErrShort},
		{[]byte{3, 128, 32}, 0, api.ErrShort},
		{[]byte{4}, 0, api.ErrShort},
		{[]byte{4, 1}, 0, api.ErrShort},
		{[]byte{4, 2, 2, 1}, 0, api.ErrShort},
		{[]byte{5}, 0, api.ErrShort},
		{[]byte{0}, 0, api.ErrBytes},
		{[]byte{6}, 0, api.ErrBytes},
		{[]byte{9}, 0, api.ErrBytes},
		{[]byte{129, 0}, 0, api.ErrBytes},
		{[]byte{255, 255}, 0, api.ErrBytes},
		{[]byte{1, 128, 0}, 0, api.ErrBytes},
		{append([]byte{1}, append(nines, 2)...), 0, api.ErrBytes},
		{[]byte{2, 2}, 0, api.ErrBytes},
		{[]byte{2, 128}, 0, api.ErrBytes},
		{[]byte{2, 128, 0}, 0, api.ErrBytes},
		{[]byte{2, 255}, 0, api.ErrBytes},
		{[]byte{3, 130, 0, 97, 98}, 0, api.ErrBytes},
		{[]byte{4, 128, 0}, 0, api.ErrBytes},
		{append([]byte{4}, append(nines, 2)...), 0, api.ErrBytes},
		{[]byte{5, 129, 0}, 0, api.ErrBytes},
		{[]byte{4, 2, 1, 2, 9}, 0, api.ErrBytes},
		{[]byte{3, 129, 32}, 0, api.ErrLong},
		{append([]byte{3, 129, 32}, make([]byte, 4097)...), 0, api.ErrLong},
		{append([]byte{3}, append(nines, 1)...), 0, api.ErrLong},
		{[]byte{4, 1, 3, 129, 32}, 0, api.ErrLong},
		{[]byte{5, 1}, 0, api.ErrValue},
		{[]byte{5, 255, 255, 255, 255, 255, 255, 255, 255, 255, 1}, 0, api.ErrValue},
		{[]byte{4, 1, 5, 3}, 0, api.ErrValue},
		{[]byte{4, 129, 2}, 0, api.ErrValue},
		{append([]byte{4}, append(nines, 1)...), 0, api.ErrValue},
		{[]byte{4, 128, 2}, 0, api.ErrShort},
	} {
		v, next, e := value.Get(x.b, x.at)
		if !reflect.DeepEqual(v, api.Value{}) || next != 0 || e != x.e {
			t.Error(i, brief(x.b), x.at, brief(v), next, e)
		}
	}
}

// Where several errors are near, the first one counts, as the bytes are gone through.
func TestGetOfTooMany(t *testing.T) {
	full := append([]byte{4, 128, 2}, slices.Repeat([]byte{2, 0}, 255)...) // 256 parts are told, of 256 pieces in all
	within := append([]byte{4, 2}, full...)
	tail := append([]byte{4, 2, 4, 254, 1}, slices.Repeat([]byte{2, 0}, 254)...) // 256 pieces, and one part more is told
	levels := slices.Repeat([]byte{4, 1}, 16)
	for i, x := range []struct {
		b []byte
		e api.Errno
	}{
		{full, api.ErrValue},
		{append(slices.Clone(full), 9), api.ErrValue},
		{append(slices.Clone(full), 2, 0), api.ErrValue},
		{full[:len(full)-1], api.ErrShort},
		{append(slices.Clone(full[:len(full)-1]), 2), api.ErrBytes},
		{append(slices.Clone(full[:3]), 9), api.ErrBytes},
		{within[:len(within)-2], api.ErrValue},
		{within[:len(within)-3], api.ErrShort},
		{tail, api.ErrValue},
		{append(slices.Clone(tail), 9), api.ErrValue},
		{tail[:len(tail)-1], api.ErrShort},
		{levels, api.ErrValue},
		{append(slices.Clone(levels), 9), api.ErrValue},
		{append(slices.Clone(levels), 1, 0), api.ErrValue},
		{levels[:31], api.ErrShort},
		{levels[:30], api.ErrShort},
		{append(slices.Clone(levels[:30]), 9), api.ErrBytes},
		{append(slices.Clone(levels[:30]), 5, 1), api.ErrValue},
		{slices.Repeat([]byte{4, 1}, 100000), api.ErrValue},
		{slices.Repeat([]byte{4, 128, 2}, 100000), api.ErrValue},
	} {
		v, next, e := value.Get(x.b, 0)
		if !reflect.DeepEqual(v, api.Value{}) || next != 0 || e != x.e {
			t.Error(i, brief(v), next, e)
		}
	}
}

func TestGetOfCutBytes(t *testing.T) {
	for _, v := range append(manyByChance(500), rightOnes()...) {
		b := put(t, v)
		step := 1 + len(b)/300
		for n := 0; n < len(b); n += step {
			if got, next, e := value.Get(b[:n], 0); !reflect.DeepEqual(got, api.Value{}) || next != 0 || e != api.ErrShort {
				t.Fatal(brief(v), n, brief(got), next, e)
			}
		}
	}
}

// P2.3: the order, and what is shown.

// rising are values of which each is below the next one.
func rising() []api.Value {
	return []api.Value{
		{Kind: 0},
		number(math.MinInt64), number(-1), number(0), number(1), number(9), number(math.MaxInt64),
		truth(0), truth(1),
		text(""), text("\x00"), text("\x00\x00"), text("\x01"), text("A"), text("Z"), text("a"), text("a\x00"), text("aa"), text("ab"), text("b"), text("\x7f"), text("\x80"), text("é"), text("\xff"),
		tuple(),
		tuple(number(9)), tuple(truth(0)), tuple(truth(1)), tuple(text("")), tuple(tuple()), tuple(tuple(number(1))), tuple(tuple(number(1), number(0))), tuple(actor(0)),
		tuple(number(0), number(0)), tuple(number(0), actor(7)), tuple(number(1), number(-5)), tuple(tuple(), tuple()),
		tuple(number(-1), number(-1), number(-1)),
		tuple(many(255, number(math.MinInt64))...),
		actor(0), actor(1), actor(math.MaxInt64),
		{Kind: 6}, {Kind: 255},
	}
}

func TestCompareRising(t *testing.T) {
	vs := rising()
	for i, a := range vs {
		for k, b := range vs {
			want := 0
			if i < k {
				want = -1
			} else if i > k {
				want = 1
			}
			if got := value.Compare(a, b); got != want {
				t.Error(brief(a), brief(b), got)
			}
			if value.Same(a, b) != (i == k) {
				t.Error("Same", brief(a), brief(b))
			}
		}
	}
}

func TestCompareOfWrongOnes(t *testing.T) {
	all := api.Value{Kind: 9, N: 1, S: "a", L: []api.Value{number(1)}}
	long := strings.Repeat("x", 5000)
	for i, x := range []struct {
		a, b api.Value
		want int
	}{
		{api.Value{}, api.Value{N: 1, S: "a", L: all.L}, 0},
		{all, api.Value{Kind: 9, N: 2, S: "b", L: []api.Value{number(2), number(3)}}, 0},
		{all, api.Value{Kind: 8, N: 7}, 1},
		{tuple(all), tuple(api.Value{Kind: 9}), 0},
		{tuple(all, number(1)), tuple(api.Value{Kind: 9}, number(2)), -1},
		{api.Value{Kind: api.VInt, N: 1, S: "b"}, api.Value{Kind: api.VInt, N: 1, S: "a", L: all.L}, 0},
		{truth(-7), truth(0), -1},
		{truth(7), truth(1), 1},
		{truth(7), truth(7), 0},
		{actor(-1), actor(0), -1},
		{api.Value{Kind: api.VBytes, N: 2, S: "a"}, api.Value{Kind: api.VBytes, N: 1, S: "a", L: all.L}, 0},
		{text(long + "a"), text(long + "b"), -1},
		{text(long), text(long + "b"), -1},
		{api.Value{Kind: api.VTuple, N: 2, S: "b"}, tuple(), 0},
		{tuple(many(300, number(1))...), tuple(append(many(299, number(1)), number(0))...), 1},
		{tuple(many(300, number(1))...), tuple(many(299, number(2))...), 1},
	} {
		if got := value.Compare(x.a, x.b); got != x.want {
			t.Error(i, got)
		}
		if got := value.Compare(x.b, x.a); got != -x.want {
			t.Error(i, "turned", got)
		}
		if value.Same(x.a, x.b) != (x.want == 0) {
			t.Error(i, "Same")
		}
	}
}

func TestCompareAsksSixteenLevels(t *testing.T) {
	for _, x := range []struct {
		levels int // of tuples, around what differs
		a, b   api.Value
		want   int
	}{
		{15, number(1), number(2), -1},
		{15, number(1), truth(0), -1},
		{15, text("b"), text("a"), 1},
		{15, tuple(), tuple(number(1)), -1},
		{15, tuple(number(2), number(2)), tuple(number(1)), 1},
		{15, tuple(number(2)), tuple(number(1)), 0},
		{15, tuple(number(2)), tuple(truth(1)), 0},
		{15, tuple(tuple()), tuple(tuple(number(1))), 0},
		{16, number(1), number(2), 0},
		{16, tuple(), tuple(number(1)), 0},
		{17, number(1), text(""), 0},
		{60000, number(1), text(""), 0},
	} {
		a, b := deep(x.levels, x.a), deep(x.levels, x.b)
		if got := value.Compare(a, b); got != x.want {
			t.Error(x, got)
		}
		if got := value.Compare(b, a); got != -x.want {
			t.Error(x, "turned", got)
		}
	}
	behind := tuple(deep(16, number(1)), number(1))
	if got := value.Compare(behind, tuple(deep(16, number(2)), number(2))); got != -1 {
		t.Error(got)
	}
}

func TestCompareOfEndlessOnes(t *testing.T) {
	if got := value.Compare(round(2), round(2)); got != 0 {
		t.Error(got)
	}
	if got := value.Compare(round(1), round(2)); got != -1 {
		t.Error(got)
	}
}

func TestShow(t *testing.T) {
	for _, x := range []struct {
		v    api.Value
		want string
	}{
		{number(0), "0"},
		{number(-1), "-1"},
		{number(math.MaxInt64), "9223372036854775807"},
		{number(math.MinInt64), "-9223372036854775808"},
		{truth(0), "false"},
		{truth(1), "true"},
		{text(""), `""`},
		{text("ab"), `"ab"`},
		{text(`a"`), `"a\22"`},
		{text(`a\b`), `"a\5cb"`},
		{text("\x00\n\x1f ~\x7f\x80\xff"), `"\00\0a\1f ~\7f\80\ff"`},
		{text("é"), `"\c3\a9"`},
		{text("(1, @2)'"), `"(1, @2)'"`},
		{tuple(), "()"},
		{tuple(number(1)), "(1,)"},
		{tuple(number(1), number(-2)), "(1, -2)"},
		{tuple(truth(1), actor(3)), "(true, @3)"},
		{tuple(tuple(), tuple(text(",")), tuple(number(1), tuple(number(2), number(3)), number(4))), `((), (",",), (1, (2, 3), 4))`},
		{deep(15, tuple()), strings.Repeat("(", 16) + ")" + strings.Repeat(",)", 15)},
		{tuple(many(255, number(5))...), "(" + strings.Repeat("5, ", 254) + "5)"},
		{actor(0), "@0"},
		{actor(1<<32 + 1), "@4294967297"},
		{text(strings.Repeat("\x00", api.MaxBytes)), `"` + strings.Repeat(`\00`, api.MaxBytes) + `"`},
	} {
		if got := value.Show(x.v); got != x.want {
			t.Error(brief(got), brief(x.want))
		}
	}
	for b := range 256 {
		want := fmt.Sprintf(`"\%02x"`, b)
		if b >= 32 && b <= 126 && b != '"' && b != '\\' {
			want = `"` + string(rune(b)) + `"`
		}
		if got := value.Show(text(string([]byte{byte(b)}))); got != want {
			t.Error(b, got)
		}
	}
	for i, v := range wrongOnes() {
		if got := value.Show(v); got != "?" {
			t.Error(i, brief(got))
		}
	}
}

// P2.4: what is put is got; one form; an order; what is shown alike is the same.

func TestPutIsGot(t *testing.T) {
	for _, v := range append(manyByChance(5000), rightOnes()...) {
		b, e := value.Put([]byte{128, 255}, v)
		if e != api.OK {
			t.Fatal(brief(v), e)
		}
		got, next, e := value.Get(append(b, 128), 2)
		if !alike(got, v) || !value.Same(got, v) || next != len(b) || e != api.OK {
			t.Fatal(brief(v), brief(got), next, e)
		}
	}
}

// slowGet is Get's answer told in another way: it tries how far one value after the other goes, with what is still to come on a stack of levels.
func slowGet(b []byte, at int) (int, api.Errno) {
	levels := []int{1}
	for pieces := 1; len(levels) > 0; pieces++ {
		level := levels[len(levels)-1]
		levels = levels[:len(levels)-1]
		if pieces > 256 || level > 16 {
			return 0, api.ErrValue
		}
		if at == len(b) {
			return 0, api.ErrShort
		}
		kind := b[at]
		at++
		if kind == 2 && at == len(b) {
			return 0, api.ErrShort
		}
		if kind == 0 || kind > 5 || kind == 2 && b[at] > 1 {
			return 0, api.ErrBytes
		}
		n, next, e := bytes.GetUint(b, at)
		if e != api.OK {
			return 0, e
		}
		at = next
		switch {
		case kind == 3 && n > 4096:
			return 0, api.ErrLong
		case kind == 3 && n > uint64(len(b)-at):
			return 0, api.ErrShort
		case kind == 3:
			at += int(n)
		case kind == 4 && n > 256, kind == 5 && n%2 == 1:
			return 0, api.ErrValue
		case kind == 4:
			levels = append(levels, slices.Repeat([]int{level + 1}, int(n))...)
		}
	}
	return at, api.OK
}

func TestBytesByChance(t *testing.T) {
	r := rand.New(rand.NewPCG(5, 6))
	hard := []byte{0, 1, 2, 3, 4, 4, 4, 5, 6, 15, 127, 128, 129, 255}
	seen := map[api.Errno]int{}
	for range 300000 {
		b := make([]byte, r.IntN(80))
		for i := range b {
			b[i] = hard[r.IntN(len(hard))]
			if i%2 == 0 && r.IntN(8) > 0 { // else few would be of many values
				b[i] = byte(1 + r.IntN(5))
			}
		}
		if r.IntN(2) == 0 {
			b = append(slices.Repeat([]byte{4, 1}, r.IntN(17)), b...)
		}
		v, next, e := value.Get(b, 0)
		wantNext, wantE := slowGet(b, 0)
		if next != wantNext || e != wantE {
			t.Fatal(b, next, e, wantNext, wantE)
		}
		seen[e]++
		if e == api.OK && (!value.Right(v) || !slices.Equal(put(t, v), b[:next])) {
			t.Fatal(b, brief(v))
		}
	}
	for _, e := range []api.Errno{api.OK, api.ErrShort, api.ErrBytes, api.ErrLong, api.ErrValue} {
		if seen[e] == 0 {
			t.Error("never met:", e)
		}
	}
}

func TestChangedBytes(t *testing.T) {
	r := rand.New(rand.NewPCG(7, 8))
	for _, v := range manyByChance(3000) {
		b := put(t, v)
		for range 20 {
			c := slices.Clone(b)
			c[r.IntN(len(c))] = byte(r.Uint32() >> r.IntN(8))
			got, next, e := value.Get(c, 0)
			wantNext, wantE := slowGet(c, 0)
			if next != wantNext || e != wantE {
				t.Fatal(c, next, e, wantNext, wantE)
			}
			if e == api.OK && !slices.Equal(put(t, got), c[:next]) {
				t.Fatal(c, brief(got))
			}
		}
	}
}

func TestCompareIsAnOrder(t *testing.T) {
	vs := append(manyByChance(700), rightOnes()...)
	slices.SortFunc(vs, value.Compare)
	for i, a := range vs {
		for _, b := range vs[i:] {
			c := value.Compare(a, b)
			if c > 0 || c != -value.Compare(b, a) || (c == 0) != alike(a, b) || value.Same(a, b) != alike(a, b) {
				t.Fatal(brief(a), brief(b), c)
			}
		}
	}
}

func TestShownAlikeIsTheSame(t *testing.T) {
	shown := map[string]api.Value{}
	for _, v := range append(append(manyByChance(20000), rightOnes()...), rising()...) {
		if !value.Right(v) {
			continue
		}
		s := value.Show(v)
		if was, ok := shown[s]; ok && !value.Same(was, v) {
			t.Fatal(brief(s), brief(was), brief(v))
		}
		shown[s] = v
	}
}

// R3: nothing that is handed in is changed or kept, and what is handed out is new.

func TestOutAndItsSpareRoomStay(t *testing.T) {
	room := slices.Repeat([]byte{77}, 64)
	for _, n := range []int{0, 3} {
		got, _ := value.Put(room[:n], tuple(number(300), text("abc"), truth(1), actor(1)))
		if !slices.Equal(room, slices.Repeat([]byte{77}, 64)) {
			t.Error("changed", room)
		}
		want := slices.Clone(got)
		clear(room)
		if !slices.Equal(got, want) {
			t.Error("shared", got)
		}
		clear(got[:cap(got)])
		if !slices.Equal(room, make([]byte, 64)) {
			t.Error("handed out", room)
		}
		room = slices.Repeat([]byte{77}, 64)
	}
}

func TestTwoPutsBehindOneOut(t *testing.T) {
	out, _ := value.Put(nil, number(1))
	a, _ := value.Put(out, number(2))
	b, _ := value.Put(out, number(3))
	if !slices.Equal(a, []byte{1, 2, 1, 4}) || !slices.Equal(b, []byte{1, 2, 1, 6}) {
		t.Error(a, b)
	}
}

func TestGotIsNew(t *testing.T) {
	v := tuple(text("abc"), tuple(text("d"), number(1)))
	b := put(t, v)
	first, _, _ := value.Get(b, 0)
	second, _, _ := value.Get(b, 0)
	clear(b)
	first.L[0] = number(9)
	first.L[1].L[0] = number(9)
	first.L = append(first.L[:1], number(9))
	if !alike(second, v) {
		t.Error(second)
	}
}

func TestValuesStay(t *testing.T) {
	make2 := func() api.Value { return tuple(number(2), tuple(text("b"), truth(1)), actor(1)) }
	v, w := make2(), make2()
	value.Right(v)
	value.Compare(v, w)
	value.Show(v)
	put(t, v)
	if !alike(v, make2()) || !alike(w, make2()) {
		t.Error(v, w)
	}
}
