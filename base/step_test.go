package base_test

import (
	"fmt"
	"math"
	"slices"
	"strings"
	"testing"

	"drover/api"
	"drover/base"
)

// The module of the steps: the function 0 is the body go of the role 0, and has the instruction that is asked for at its begin; so has the function 1, if it is a call.
const (
	fnGo   = 0 // three parameters, four variables
	fnTwo  = 1 // two parameters, three variables
	fnNone = 2 // nothing
)

// having is that module.
func having(i api.Ins) api.Module {
	op := func(op api.Op) api.Ins { return api.Ins{Op: op} }
	call := i
	if i.Op != api.OCall {
		call = op(api.OSelf)
	}
	return api.Module{
		Consts: list(number(7), truth(1), text("ab"), tuple(number(1), actor(2))),
		Tags:   []string{"hi", "ho"},
		Fns: []api.Fn{
			{Name: "go", Params: 3, Vars: 4, Code: []api.Ins{i, op(api.OSelf), op(api.OPop), op(api.OSelf), op(api.OEnd)}},
			{Name: "two", Params: 2, Vars: 3, Code: []api.Ins{call, op(api.OSelf), op(api.OReturn)}},
			{Name: "none", Code: []api.Ins{op(api.OSelf), op(api.OReturn)}},
			{Name: "hi", Code: []api.Ins{op(api.OEnd)}},
		},
		Roles: []api.Part{{Name: "c", Params: 2, On: []api.On{{Tag: "go", Params: 1, Fn: 0}}}, {Name: "d", On: []api.On{{Tag: "hi", Fn: 3}}}, {Name: "e", Params: 1}},
	}
}

// sent is what the turn of the steps has done so far.
func sent() api.Effect {
	return api.Effect{To: 4, Role: -1, Tag: "was", Args: list(text("sent"))}
}

// with is the turn of the steps, with that stack.
func with(stack ...api.Value) api.Turn {
	return api.Turn{
		Frames:  []api.Frame{{Fn: fnGo, Vars: list(number(3), truth(1), text("x"), tuple(truth(0))), Stack: stack}},
		Effects: []api.Effect{sent()},
		Self:    9, Next: 50, Used: 5, State: list(number(1), text("n")),
	}
}

// trapped is how the turn of the steps ends in a trap.
func trapped(trap, used int) api.Turn {
	return api.Turn{Self: 9, Next: 50, Used: used, Over: api.Trapped, Trap: trap, State: list(number(1), text("n"))}
}

// wantStep wants that a step from a turn leads to another one; so do a Run of one step, but for TrapFuel, and R3: what is handed in stays.
func wantStep(t *testing.T, i api.Ins, from, want api.Turn) {
	t.Helper()
	m := having(i)
	what, ahead := fmt.Sprint(i, " of ", brief(told(from))), kept(from)
	if !base.Right(m, from) {
		t.Errorf("not right ahead: %s", what)
	}
	wantTurn(t, what, base.Step(m, from), want)
	if want.Over == api.Going {
		if !base.Right(m, want) {
			t.Errorf("not right behind: %s", what)
		}
		want = trapped(trapFuel, from.Used+1)
		want.Self, want.Next = from.Self, from.Next
	}
	wantTurn(t, "Run of "+what, base.Run(m, from, 1), want)
	if !alike(from, ahead) || fmt.Sprint(m) != fmt.Sprint(having(i)) {
		t.Errorf("what is handed in is changed: %s", what)
	}
}

// gone is from behind an instruction that does nothing but go on with that stack, at the place at.
func gone(from api.Turn, at int, stack ...api.Value) api.Turn {
	from.Frames = slices.Clone(from.Frames)
	last := &from.Frames[len(from.Frames)-1]
	last.At, last.Stack = at, stack
	from.Used++
	return from
}

// each Op that takes values, with as many as it takes (of having), and values that it does not trap at.
var taking = []struct {
	ins  api.Ins
	took []api.Value
}{
	{api.Ins{Op: api.OStore}, list(number(1))}, {api.Ins{Op: api.OPop}, list(number(1))},
	{api.Ins{Op: api.OAdd}, list(number(1), number(2))}, {api.Ins{Op: api.OSub}, list(number(1), number(2))}, {api.Ins{Op: api.OMul}, list(number(1), number(2))},
	{api.Ins{Op: api.ODiv}, list(number(1), number(2))}, {api.Ins{Op: api.OMod}, list(number(1), number(2))}, {api.Ins{Op: api.ONeg}, list(number(1))}, {api.Ins{Op: api.ONot}, list(truth(1))},
	{api.Ins{Op: api.OEq}, list(number(1), truth(1))}, {api.Ins{Op: api.ONe}, list(number(1), truth(1))}, {api.Ins{Op: api.OLt}, list(number(1), number(2))}, {api.Ins{Op: api.OLe}, list(number(1), number(2))},
	{api.Ins{Op: api.OGt}, list(number(1), number(2))}, {api.Ins{Op: api.OGe}, list(number(1), number(2))}, {api.Ins{Op: api.OCat}, list(text("a"), text("b"))}, {api.Ins{Op: api.OAt}, list(text("a"), number(0))},
	{api.Ins{Op: api.OLen}, list(text("a"))}, {api.Ins{Op: api.OTuple, A: 1}, list(text("a"))}, {api.Ins{Op: api.OTuple, A: 3}, many(3, number(1))}, {api.Ins{Op: api.OTuple, A: 200}, many(200, number(1))},
	{api.Ins{Op: api.OCall, A: fnTwo}, list(number(1), number(2))}, {api.Ins{Op: api.OSpawn}, list(number(1), number(2))}, {api.Ins{Op: api.OSpawn, A: 2}, list(number(1))},
	{api.Ins{Op: api.OSend}, list(actor(1))}, {api.Ins{Op: api.OSend, B: 1}, list(actor(1), number(1))}, {api.Ins{Op: api.OSend, A: 1, B: 199}, append(list(actor(1)), many(199, number(1))...)},
	{api.Ins{Op: api.OBecome}, list(number(1), number(2))}, {api.Ins{Op: api.OBecome, A: 2}, list(number(1))},
	{api.Ins{Op: api.OUnless}, list(truth(1))}, {api.Ins{Op: api.OAnd}, list(truth(1))}, {api.Ins{Op: api.OOr}, list(truth(1))}, {api.Ins{Op: api.OTruth}, list(truth(1))},
}

// P12.2: where values are wanting, it is TrapStack, of whatever kind those are that are there.
func TestWanting(t *testing.T) {
	for _, c := range taking {
		if got := base.Step(having(c.ins), with(c.took...)); got.Over == api.Trapped {
			t.Errorf("%v of %v: trap %d", c.ins, c.took, got.Trap)
		}
		for n := range c.took {
			wantStep(t, c.ins, with(c.took[len(c.took)-n:]...), trapped(trapStack, 6))
			for _, v := range list(number(0), truth(0), text(""), tuple(), actor(0)) {
				wantStep(t, c.ins, with(many(n, v)...), trapped(trapStack, 6))
			}
		}
	}
	for _, ins := range []api.Ins{{Op: api.OTuple, A: 201}, {Op: api.OTuple, A: 255}, {Op: api.OSend, B: 200}, {Op: api.OSend, B: 255}} {
		wantStep(t, ins, with(many(mostStack, actor(1))...), trapped(trapStack, 6))
	}
	// Of what a function returns: its own stack counts, not the one below.
	from := with(many(3, number(1))...)
	from.Frames = append(from.Frames, api.Frame{Fn: fnNone, At: 1})
	wantStep(t, api.Ins{Op: api.OPop}, from, trapped(trapStack, 6))
}

// P12.2: a stack has at most MaxStack values: what puts more than it takes traps.
func TestFullStack(t *testing.T) {
	full := many(mostStack, text("v"))
	for _, c := range []struct {
		ins api.Ins
		put api.Value
	}{{api.Ins{Op: api.OConst, A: 2}, text("ab")}, {api.Ins{Op: api.OLoad, A: 2}, text("x")}, {api.Ins{Op: api.OSelf}, actor(9)}, {api.Ins{Op: api.OTuple}, tuple()}} {
		wantStep(t, c.ins, with(full...), trapped(trapStack, 6))
		wantStep(t, c.ins, with(full[1:]...), gone(with(), 1, append(slices.Clone(full[1:]), c.put)...))
	}
	// A spawn of a role that has no state: nothing is done, and Next is as it was.
	spawn := api.Ins{Op: api.OSpawn, A: 1}
	wantStep(t, spawn, with(full...), trapped(trapStack, 6))
	want := gone(with(), 1, append(slices.Clone(full[1:]), actor(50))...)
	want.Next, want.Effects = 51, []api.Effect{sent(), {To: 50, Role: 1}}
	wantStep(t, spawn, with(full[1:]...), want)
	// What a function returns is put on the one below.
	from := with(full...)
	from.Frames = append(from.Frames, api.Frame{Fn: fnNone, At: 1, Stack: list(number(4))})
	wantStep(t, api.Ins{Op: api.OPop}, from, trapped(trapStack, 6))
	from.Frames[0].Stack = full[1:]
	want = with(append(slices.Clone(full[1:]), number(4))...)
	want.Used = 6
	wantStep(t, api.Ins{Op: api.OPop}, from, want)
	// What takes as much as it puts has room.
	for _, c := range taking {
		if len(c.took) > 3 || c.ins.Op == api.OBecome {
			continue
		}
		stack := append(many(mostStack-len(c.took), number(8)), c.took...)
		if got := base.Step(having(c.ins), with(stack...)); got.Over != api.Going || len(got.Frames[len(got.Frames)-1].Stack) > mostStack {
			t.Errorf("%v on a full stack: %s", c.ins, brief(told(got)))
		}
	}
	// A call of what has no parameters takes nothing and puts nothing.
	want = gone(with(), 1, full...)
	want.Frames = append(want.Frames, api.Frame{Fn: fnNone})
	wantStep(t, api.Ins{Op: api.OCall, A: fnNone}, with(full...), want)
}

// P12.2: what is made of values, and what is not.
func TestMade(t *testing.T) {
	long, half := text(strings.Repeat("z", mostBytes)), strings.Repeat("y", mostBytes/2)
	type row struct {
		op    api.Op
		a     int
		stack []api.Value
		want  api.Value
		trap  int
	}
	rows := []row{
		{api.OConst, 0, nil, number(7), 0}, {api.OConst, 1, nil, truth(1), 0}, {api.OConst, 2, nil, text("ab"), 0}, {api.OConst, 3, nil, tuple(number(1), actor(2)), 0},
		{api.OLoad, 0, nil, number(3), 0}, {api.OLoad, 1, nil, truth(1), 0}, {api.OLoad, 2, nil, text("x"), 0}, {api.OLoad, 3, nil, tuple(truth(0)), 0}, {api.OSelf, 0, nil, actor(9), 0},
		{api.ONeg, 0, list(number(5)), number(-5), 0}, {api.ONeg, 0, list(number(0)), number(0), 0}, {api.ONeg, 0, list(number(math.MaxInt64)), number(-math.MaxInt64), 0}, {api.ONeg, 0, list(number(-math.MaxInt64)), number(math.MaxInt64), 0},
		{api.ONeg, 0, list(number(math.MinInt64)), api.Value{}, trapOver},
		{api.ONot, 0, list(truth(1)), truth(0), 0}, {api.ONot, 0, list(truth(0)), truth(1), 0}, {api.OTruth, 0, list(truth(1)), truth(1), 0}, {api.OTruth, 0, list(truth(0)), truth(0), 0},
		// Of bytes and of tuples, as long as they may be.
		{api.OCat, 0, list(text("a"), text("b")), text("ab"), 0}, {api.OCat, 0, list(text(""), text("")), text(""), 0}, {api.OCat, 0, list(text(half), text(half)), text(half + half), 0}, {api.OCat, 0, list(long, text("")), long, 0},
		{api.OCat, 0, list(long, text("a")), api.Value{}, trapLong}, {api.OCat, 0, list(text("a"), long), api.Value{}, trapLong}, {api.OCat, 0, list(long, long), api.Value{}, trapLong},
		{api.OCat, 0, list(tuple(number(1)), tuple(text("b"), tuple())), tuple(number(1), text("b"), tuple()), 0}, {api.OCat, 0, list(tuple(), tuple()), tuple(), 0}, {api.OCat, 0, list(deep(16, number(0)).L[0], tuple()), deep(15, number(0)), 0},
		{api.OCat, 0, list(tuple(many(100, number(1))...), tuple(many(155, number(1))...)), tuple(many(255, number(1))...), 0}, {api.OCat, 0, list(tuple(many(100, number(1))...), tuple(many(156, number(1))...)), api.Value{}, trapLong},
		{api.OCat, 0, list(tuple(many(255, number(1))...), tuple()), tuple(many(255, number(1))...), 0}, {api.OCat, 0, list(tuple(many(255, number(1))...), tuple(tuple())), api.Value{}, trapLong},
		{api.OCat, 0, list(tuple(tuple(many(200, number(1))...)), tuple(many(54, number(1))...)), tuple(append(list(tuple(many(200, number(1))...)), many(54, number(1))...)...), 0},
		{api.OCat, 0, list(tuple(tuple(many(200, number(1))...)), tuple(many(55, number(1))...)), api.Value{}, trapLong},
		{api.OTuple, 0, nil, tuple(), 0}, {api.OTuple, 1, list(number(1)), tuple(number(1)), 0}, {api.OTuple, 3, list(number(1), text("2"), truth(0)), tuple(number(1), text("2"), truth(0)), 0}, {api.OTuple, 200, many(200, actor(6)), tuple(many(200, actor(6))...), 0},
		{api.OTuple, 1, list(deep(15, number(0))), api.Value{}, trapLong}, {api.OTuple, 1, list(deep(14, number(0))), deep(15, number(0)), 0}, {api.OTuple, 2, list(number(1), deep(14, tuple())), tuple(number(1), deep(14, tuple())), 0}, {api.OTuple, 2, list(number(1), deep(15, tuple())), api.Value{}, trapLong},
		{api.OTuple, 1, list(tuple(many(254, number(1))...)), tuple(tuple(many(254, number(1))...)), 0}, {api.OTuple, 1, list(tuple(many(255, number(1))...)), api.Value{}, trapLong}, {api.OTuple, 2, list(tuple(many(253, number(1))...), number(1)), tuple(tuple(many(253, number(1))...), number(1)), 0},
		{api.OTuple, 2, list(tuple(many(254, number(1))...), number(1)), api.Value{}, trapLong}, {api.OTuple, 2, list(long, long), tuple(long, long), 0},
		// Places.
		{api.OAt, 0, list(tuple(number(5), text("q")), number(0)), number(5), 0}, {api.OAt, 0, list(tuple(number(5), tuple(text("q"))), number(1)), tuple(text("q")), 0}, {api.OAt, 0, list(tuple(number(5), text("q")), number(2)), api.Value{}, trapRange},
		{api.OAt, 0, list(tuple(number(5)), number(-1)), api.Value{}, trapRange}, {api.OAt, 0, list(tuple(), number(0)), api.Value{}, trapRange}, {api.OAt, 0, list(tuple(number(5)), number(math.MaxInt64)), api.Value{}, trapRange}, {api.OAt, 0, list(tuple(number(5)), number(math.MinInt64)), api.Value{}, trapRange},
		{api.OAt, 0, list(text("A\x00\xff"), number(0)), number(65), 0}, {api.OAt, 0, list(text("A\x00\xff"), number(1)), number(0), 0}, {api.OAt, 0, list(text("A\x00\xff"), number(2)), number(255), 0}, {api.OAt, 0, list(text("A\x00\xff"), number(3)), api.Value{}, trapRange},
		{api.OAt, 0, list(text("A"), number(-1)), api.Value{}, trapRange}, {api.OAt, 0, list(text(""), number(0)), api.Value{}, trapRange}, {api.OAt, 0, list(text("A"), number(1<<32)), api.Value{}, trapRange}, {api.OAt, 0, list(long, number(mostBytes-1)), number('z'), 0},
		{api.OAt, 0, list(tuple(number(5)), number(1<<32)), api.Value{}, trapRange}, {api.OAt, 0, list(number(0), text("A")), api.Value{}, trapType}, {api.OAt, 0, list(number(0), tuple(number(5))), api.Value{}, trapType}, {api.OAt, 0, list(text("é"), number(1)), number(0xa9), 0},
		{api.OLen, 0, list(text("")), number(0), 0}, {api.OLen, 0, list(text("é\x00")), number(3), 0}, {api.OLen, 0, list(long), number(mostBytes), 0}, {api.OLen, 0, list(tuple()), number(0), 0}, {api.OLen, 0, list(tuple(tuple(number(1), number(2)))), number(1), 0}, {api.OLen, 0, list(tuple(many(255, number(1))...)), number(255), 0},
	}
	for _, r := range rows {
		for _, below := range [][]api.Value{nil, list(text("below"), truth(0))} {
			ins := api.Ins{Op: r.op, A: r.a}
			if len(below)+len(r.stack) > mostStack {
				continue
			}
			from := with(slices.Concat(below, r.stack)...)
			if r.trap != 0 {
				wantStep(t, ins, from, trapped(r.trap, 6))
				continue
			}
			wantStep(t, ins, from, gone(from, 1, slices.Concat(below, list(r.want))...))
		}
	}
}

// sign is -1, 0 or 1, as n is.
func sign(n int64) int {
	switch {
	case n < 0:
		return -1
	case n > 0:
		return 1
	}
	return 0
}

// someInts are whole numbers at the edges of what is reckoned with.
func someInts() []int64 {
	return []int64{math.MinInt64, math.MinInt64 + 1, math.MinInt64 / 2, math.MinInt64/2 - 1, -1 << 32, -3037000500, -3037000499, -7, -2, -1, 0, 1, 2, 3, 7, 3037000499, 3037000500, 1 << 31, 1 << 32, 1 << 62, math.MaxInt64 / 2, math.MaxInt64/2 + 1, math.MaxInt64 - 1, math.MaxInt64}
}

// P12.2: what becomes of two numbers, at all edges of 64 bits.
func TestNumbers(t *testing.T) {
	for _, a := range someInts() {
		for _, b := range someInts() {
			for _, op := range []api.Op{api.OAdd, api.OSub, api.OMul, api.ODiv, api.OMod} {
				from := with(text("below"), number(a), number(b))
				n, trap := reckoned(op, a, b)
				if trap != 0 {
					wantStep(t, api.Ins{Op: op}, from, trapped(trap, 6))
				} else {
					wantStep(t, api.Ins{Op: op}, from, gone(from, 1, text("below"), number(n)))
				}
			}
		}
	}
	for _, c := range []struct {
		op         api.Op
		a, b, want int64
	}{
		{api.ODiv, 7, 2, 3}, {api.ODiv, -7, 2, -3}, {api.ODiv, 7, -2, -3}, {api.ODiv, -7, -2, 3}, {api.OMod, 7, 2, 1}, {api.OMod, -7, 2, -1}, {api.OMod, 7, -2, 1}, {api.OMod, -7, -2, -1}, {api.OMod, math.MinInt64, -1, 0}, {api.OMod, 0, 5, 0},
		{api.OAdd, math.MaxInt64, -1, math.MaxInt64 - 1}, {api.OSub, -1, math.MinInt64, math.MaxInt64}, {api.OMul, math.MinInt64 / 2, 2, math.MinInt64}, {api.OMul, math.MinInt64, 1, math.MinInt64}, {api.OMul, 0, math.MinInt64, 0}, {api.OSub, 3, 5, -2},
	} {
		wantStep(t, api.Ins{Op: c.op}, with(number(c.a), number(c.b)), gone(with(), 1, number(c.want)))
	}
	for _, c := range []struct {
		op   api.Op
		a, b int64
		trap int
	}{
		{api.OAdd, math.MaxInt64, 1, trapOver}, {api.OAdd, math.MinInt64, -1, trapOver}, {api.OSub, math.MinInt64, 1, trapOver}, {api.OSub, 0, math.MinInt64, trapOver}, {api.OMul, math.MinInt64, -1, trapOver}, {api.OMul, -1, math.MinInt64, trapOver}, {api.OMul, 1 << 32, 1 << 31, trapOver},
		{api.ODiv, math.MinInt64, -1, trapOver}, {api.ODiv, 1, 0, trapZero}, {api.ODiv, 0, 0, trapZero}, {api.OMod, 1, 0, trapZero}, {api.OMod, math.MinInt64, 0, trapZero}, {api.ODiv, math.MinInt64, 0, trapZero},
	} {
		wantStep(t, api.Ins{Op: c.op}, with(number(c.a), number(c.b)), trapped(c.trap, 6))
	}
}

// kinds is a value or two of each kind.
func kinds() []api.Value {
	return list(number(0), number(1), number(-1), truth(0), truth(1), text(""), text("1"), tuple(), tuple(number(1)), actor(0), actor(1))
}

// P12.2: TrapType of each kind that an instruction is not of, ahead of any other trap but TrapStack.
func TestKinds(t *testing.T) {
	both := func(k api.Kind) func(a, b api.Kind) bool { return func(a, b api.Kind) bool { return a == k && b == k } }
	ints, blobs, tuples := both(api.VInt), both(api.VBytes), both(api.VTuple)
	may := map[api.Op]func(a, b api.Kind) bool{
		api.OAdd: ints, api.OSub: ints, api.OMul: ints, api.ODiv: ints, api.OMod: ints,
		api.OEq: func(a, b api.Kind) bool { return true }, api.ONe: func(a, b api.Kind) bool { return true },
		api.OCat: func(a, b api.Kind) bool { return blobs(a, b) || tuples(a, b) },
		api.OAt:  func(a, b api.Kind) bool { return (a == api.VBytes || a == api.VTuple) && b == api.VInt },
	}
	for op := api.OLt; op <= api.OGe; op++ {
		may[op] = func(a, b api.Kind) bool { return ints(a, b) || blobs(a, b) }
	}
	for op, ask := range may {
		for _, a := range kinds() {
			for _, b := range kinds() {
				got := base.Step(having(api.Ins{Op: op}), with(a, b))
				if !ask(a.Kind, b.Kind) {
					wantStep(t, api.Ins{Op: op}, with(a, b), trapped(trapType, 6))
				} else if got.Trap == trapType || got.Over == api.Going && len(got.Frames[0].Stack) != 1 {
					t.Errorf("%d of %v, %v: %s", op, a, b, told(got))
				}
			}
		}
	}
	one := map[api.Op][]api.Kind{
		api.ONeg: {api.VInt}, api.ONot: {api.VBool}, api.OTruth: {api.VBool}, api.OLen: {api.VBytes, api.VTuple}, api.OUnless: {api.VBool}, api.OAnd: {api.VBool}, api.OOr: {api.VBool}, api.OSend: {api.VActor},
		api.OPop: {1, 2, 3, 4, 5}, api.OStore: {1, 2, 3, 4, 5}, api.OTuple: {1, 2, 3, 4, 5},
	}
	for op, right := range one {
		for _, v := range kinds() {
			ins := api.Ins{Op: op}
			if op == api.OTuple {
				ins.A = 1
			}
			if !slices.Contains(right, v.Kind) {
				wantStep(t, ins, with(v), trapped(trapType, 6))
			} else if got := base.Step(having(ins), with(v)); got.Over != api.Going {
				t.Errorf("%d of %v: %s", op, v, told(got))
			}
		}
	}
	// Whom a message is for lies below all that is sent.
	wantStep(t, api.Ins{Op: api.OSend, B: 1}, with(number(1), actor(1)), trapped(trapType, 6))
}

// P12.2: which comparison holds, of numbers and of bytes; what is the same, of any two.
func TestComparisons(t *testing.T) {
	order := map[api.Op][3]int64{api.OEq: {0, 1, 0}, api.ONe: {1, 0, 1}, api.OLt: {1, 0, 0}, api.OLe: {1, 1, 0}, api.OGt: {0, 0, 1}, api.OGe: {0, 1, 1}}
	rising := [][]api.Value{
		{number(math.MinInt64), number(-2), number(-1), number(0), number(1), number(256), number(math.MaxInt64)},
		{text(""), text("\x00"), text("A"), text("a"), text("a\x00"), text("aa"), text("b"), text("\xff")},
	}
	for _, all := range rising {
		for i, a := range all {
			for k, b := range all {
				for op, holds := range order {
					wantStep(t, api.Ins{Op: op}, with(truth(0), a, b), gone(with(), 1, truth(0), truth(holds[sign(int64(i-k))+1])))
				}
			}
		}
	}
	others := append(kinds(), tuple(text("")), tuple(number(1), number(2)), tuple(tuple(number(1))), tuple(tuple(number(2))), text("a"), actor(math.MaxInt64))
	for i, a := range others {
		for k, b := range others {
			for _, op := range []api.Op{api.OEq, api.ONe} {
				outcome := 0
				if i != k {
					outcome = 1
				}
				wantStep(t, api.Ins{Op: op}, with(a, b), gone(with(), 1, truth(order[op][outcome+1])))
			}
		}
	}
}

// P12.2: what is stored, what goes, and where a turn goes on.
func TestStoresAndJumps(t *testing.T) {
	for _, v := range kinds() {
		for variable := range 4 {
			want := gone(with(), 1, text("below"))
			want.Frames[0].Vars = slices.Clone(want.Frames[0].Vars)
			want.Frames[0].Vars[variable] = v
			wantStep(t, api.Ins{Op: api.OStore, A: variable}, with(text("below"), v), want)
		}
		wantStep(t, api.Ins{Op: api.OPop}, with(text("below"), v), gone(with(), 1, text("below")))
	}
	no, yes, below := truth(0), truth(1), text("below")
	for to := range 5 {
		wantStep(t, api.Ins{Op: api.OJump, A: to}, with(), gone(with(), to))
		wantStep(t, api.Ins{Op: api.OJump, A: to}, with(no), gone(with(), to, no))
		wantStep(t, api.Ins{Op: api.OUnless, A: to}, with(below, no), gone(with(), to, below))
		wantStep(t, api.Ins{Op: api.OUnless, A: to}, with(below, yes), gone(with(), 1, below))
		wantStep(t, api.Ins{Op: api.OAnd, A: to}, with(below, no), gone(with(), to, below, no))
		wantStep(t, api.Ins{Op: api.OAnd, A: to}, with(below, yes), gone(with(), 1, below))
		wantStep(t, api.Ins{Op: api.OOr, A: to}, with(below, yes), gone(with(), to, below, yes))
		wantStep(t, api.Ins{Op: api.OOr, A: to}, with(below, no), gone(with(), 1, below))
	}
}

// P12.2: functions: what they are begun with, how many are under way, and the way back.
func TestCalls(t *testing.T) {
	call := api.Ins{Op: api.OCall, A: fnTwo}
	want := gone(with(), 1, text("below"))
	want.Frames = append(want.Frames, api.Frame{Fn: fnTwo, Vars: list(text("low"), tuple(number(1)), number(0))})
	wantStep(t, call, with(text("below"), text("low"), tuple(number(1))), want)
	want = gone(with(), 1)
	want.Frames = append(want.Frames, api.Frame{Fn: fnNone})
	wantStep(t, api.Ins{Op: api.OCall, A: fnNone}, with(), want)
	// The one that calls goes on behind the call, and only the last one is at work.
	from := with(text("a"))
	from.Frames[0].At = 3
	from.Frames = append(from.Frames, api.Frame{Fn: fnTwo, At: 1, Vars: many(3, number(2)), Stack: list(text("b"))}, api.Frame{Fn: fnNone, At: 1, Stack: list(text("c"), text("d"))})
	want = from
	want.Used, want.Frames = 6, slices.Clone(from.Frames[:2])
	want.Frames[1].Stack = list(text("b"), text("d"))
	wantStep(t, api.Ins{Op: api.OPop}, from, want)
	from = want
	from.Frames[1].At = 2
	want.Used, want.Frames = 7, slices.Clone(from.Frames[:1])
	want.Frames[0].Stack = list(text("a"), text("d"))
	wantStep(t, api.Ins{Op: api.OPop}, from, want)
	// As many as may be under way, and one more.
	for _, n := range []int{2, mostCalls - 1, mostCalls} {
		from := with()
		for range n - 1 {
			from.Frames = append(from.Frames, api.Frame{Fn: fnTwo, Vars: many(3, number(2)), Stack: list(number(5))})
		}
		wantStep(t, call, from, trapped(trapStack, 6))
		last := &from.Frames[n-1]
		last.Stack = list(text("below"), number(5), number(6))
		if n == mostCalls {
			wantStep(t, call, from, trapped(trapDeep, 6))
			wantStep(t, api.Ins{Op: api.OCall, A: fnNone}, from, trapped(trapDeep, 6))
			continue
		}
		want := gone(from, 1, text("below"))
		want.Frames = append(want.Frames, api.Frame{Fn: fnTwo, Vars: list(number(5), number(6), number(0))})
		wantStep(t, call, from, want)
	}
}

// P12.2: what is sent, and who is spawned.
func TestEffects(t *testing.T) {
	for _, c := range []struct {
		ins   api.Ins
		stack []api.Value
		want  api.Effect
	}{
		{api.Ins{Op: api.OSend}, list(actor(3)), api.Effect{To: 3, Role: -1, Tag: "hi"}},
		{api.Ins{Op: api.OSend, A: 1, B: 2}, list(actor(0), number(1), tuple(text("q"))), api.Effect{To: 0, Role: -1, Tag: "ho", Args: list(number(1), tuple(text("q")))}},
		{api.Ins{Op: api.OSend, A: 1, B: 198}, append(list(actor(math.MaxInt64)), many(198, actor(1))...), api.Effect{To: math.MaxInt64, Role: -1, Tag: "ho", Args: many(198, actor(1))}},
	} {
		want := gone(with(), 1, text("below"))
		want.Effects = append(want.Effects, c.want)
		wantStep(t, c.ins, with(append(list(text("below")), c.stack...)...), want)
	}
	for _, c := range []struct {
		ins   api.Ins
		stack []api.Value
		role  int
	}{{api.Ins{Op: api.OSpawn}, list(tuple(text("low")), number(2)), 0}, {api.Ins{Op: api.OSpawn, A: 1}, nil, 1}, {api.Ins{Op: api.OSpawn, A: 2}, list(actor(4)), 2}} {
		for _, next := range []int64{0, 50, 1 << 40, math.MaxInt64 - 1} {
			from := with(append(list(text("below")), c.stack...)...)
			from.Next = next
			want := gone(from, 1, text("below"), actor(next))
			want.Next = next + 1
			want.Effects = append(want.Effects, api.Effect{To: next, Role: c.role, Args: c.stack})
			wantStep(t, c.ins, from, want)
		}
	}
}

// P12.2: how a turn ends: its role and state, what it did, and no frames.
func TestEnds(t *testing.T) {
	from := with(text("on"), text("the"), text("stack"))
	from.Next = 52
	from.Effects = append(from.Effects, api.Effect{To: 50, Role: 1}, api.Effect{To: 51, Role: 2, Args: list(number(1))})
	over := func(how api.Over, role int, state ...api.Value) api.Turn {
		return api.Turn{Effects: from.Effects, Self: 9, Next: 52, Used: 6, Over: how, Role: role, State: state}
	}
	end := from
	end.Frames = slices.Clone(from.Frames)
	end.Frames[0].At = 4
	wantStep(t, api.Ins{Op: api.OPop}, end, over(api.Ended, 0, number(3), truth(1)))
	wantStep(t, api.Ins{Op: api.OEnd}, from, over(api.Ended, 0, number(3), truth(1)))
	wantStep(t, api.Ins{Op: api.OStop}, from, over(api.Stopped, 0, number(1), text("n")))
	wantStep(t, api.Ins{Op: api.OBecome}, from, over(api.Became, 0, text("the"), text("stack")))
	wantStep(t, api.Ins{Op: api.OBecome, A: 1}, from, over(api.Became, 1))
	wantStep(t, api.Ins{Op: api.OBecome, A: 2}, from, over(api.Became, 2, text("stack")))
	// The Trap of a turn that did not trap has no meaning.
	end.Trap = 5
	wantStep(t, api.Ins{Op: api.OPop}, end, over(api.Ended, 0, number(3), truth(1)))
}
