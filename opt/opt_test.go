package opt_test

import (
	"fmt"
	"math"
	"reflect"
	"slices"
	"strings"
	"testing"

	"drover/api"
	"drover/base"
	"drover/code"
	"drover/ir"
	"drover/opt"
	"drover/profile"
	"drover/tree"
)

// The limits, as the chapters and api have them.
const (
	mostStack, mostVars, mostBody, mostRoom      = 200, 30, 300, 200
	mostSteps, mostExits, mostNeeds, mostPutCode = 4000, 2000, 100, 60

	ints = 1 << 1 // a set of kinds: Ints alone
)

// number, truth, text, actor and tuple are values.
func number(n int64) api.Value { return api.Value{Kind: api.VInt, N: n} }
func truth(is bool) api.Value {
	if is {
		return api.Value{Kind: api.VBool, N: 1}
	}
	return api.Value{Kind: api.VBool}
}
func text(s string) api.Value         { return api.Value{Kind: api.VBytes, S: s} }
func actor(n int64) api.Value         { return api.Value{Kind: api.VActor, N: n} }
func tuple(l ...api.Value) api.Value  { return api.Value{Kind: api.VTuple, L: l} }
func list(l ...api.Value) []api.Value { return l }
func ins(op api.Op, with ...int) api.Ins {
	with = append(with, 0, 0)
	return api.Ins{Op: op, A: with[0], B: with[1]}
}
func times(n int, all ...api.Ins) []api.Ins { return slices.Repeat(all, n) }

// compiled is the module of a text.
func compiled(t *testing.T, text string) api.Module {
	t.Helper()
	p, f := tree.Parse(text)
	m, g := code.Compile(p)
	if f != (api.Fault{}) || g != (api.Fault{}) || code.Check(m) != api.OK {
		t.Fatalf("%v %v of %s", f, g, text)
	}
	return m
}

// seen is a profile of m in which these kinds were seen everywhere.
func seen(m api.Module, top, below uint8) api.Profile {
	p := profile.Empty(m)
	for i := range p.Fns {
		p.Fns[i].Calls = 1
		for k := range p.Fns[i].Tops {
			p.Fns[i].Tops[k] = [2]uint8{top, below}
		}
	}
	return p
}

// outs is how many of a code's steps are FOut.
func outs(f api.Fast) int {
	n := 0
	for _, s := range f.Code {
		if s.Op == api.FOut {
			n++
		}
	}
	return n
}

// shown is a code as a text.
func shown(f api.Fast) string {
	var all strings.Builder
	fmt.Fprintf(&all, "fn %d regs %d needs %v", f.Fn, f.Regs, f.Needs)
	for k, s := range f.Code {
		fmt.Fprintf(&all, "\n%d %s", k, ir.Show(s))
		if s.Exit >= 0 && s.Exit < len(f.Exits) {
			fmt.Fprintf(&all, " out by %v", f.Exits[s.Exit])
		}
	}
	return all.String()
}

// dead is how many of a code's steps nothing leads to.
func dead(f api.Fast) int {
	reached := make([]bool, len(f.Code)+1)
	work := []int{0}
	for len(work) > 0 {
		at := work[0]
		work = work[1:]
		if reached[at] {
			continue
		}
		reached[at] = true
		s := f.Code[at]
		if s.Op == api.FJump || s.Op == api.FIf {
			work = append(work, s.A)
		}
		if s.Op != api.FJump && s.Op != api.FEnd && s.Op != api.FOut {
			work = append(work, at+1)
		}
	}
	n := -1
	for _, is := range reached {
		if !is {
			n++
		}
	}
	return n
}

// wantCode wants code of a body, which may be, holds, is the same each time, can be told as bytes, and has nothing that is never done.
func wantCode(t *testing.T, what string, m api.Module, fn int, p api.Profile) api.Fast {
	t.Helper()
	f, e := opt.Compile(m, fn, p)
	if e != api.OK || f.Fn != fn || ir.Check(m, f) != api.OK || !ir.Holds(m, f) {
		t.Fatalf("%s: error %d, check %d, holds %t of\n%s", what, e, ir.Check(m, f), ir.Holds(m, f), shown(f))
	}
	if g, e := opt.Compile(m, fn, p); e != api.OK || !reflect.DeepEqual(f, g) {
		t.Fatalf("%s: another one, or error %d:\n%s\nfirst\n%s", what, e, shown(g), shown(f))
	}
	if _, e := ir.Bytes(f); e != api.OK || dead(f) > 0 {
		t.Fatalf("%s: no bytes: %d, or %d steps that nothing leads to, of\n%s", what, e, dead(f), shown(f))
	}
	return f
}

// wantError wants an error, and nothing beside it.
func wantError(t *testing.T, what string, m api.Module, fn int, p api.Profile, want api.Errno) {
	t.Helper()
	if f, e := opt.Compile(m, fn, p); e != want || !reflect.DeepEqual(f, api.Fast{}) {
		t.Errorf("%s: error %d, %s; want error %d", what, e, shown(f), want)
	}
}

// wantDepths wants these depths of m's function.
func wantDepths(t *testing.T, what string, m api.Module, fn int, want ...int) {
	t.Helper()
	if got := opt.Depths(m, fn); !slices.Equal(got, want) || (len(want) == 0) != (got == nil) {
		t.Errorf("%s: depths %v; want %v", what, got, want)
	}
}

// begun is the turn of the actor self at an On of a role.
func begun(t *testing.T, m api.Module, role, on int, self int64, values ...api.Value) api.Turn {
	t.Helper()
	r := m.Roles[role]
	x, e := base.Begin(m, role, values[:r.Params], r.On[on].Tag, values[r.Params:], self, 1000)
	if e != api.OK || x.Over != api.Going {
		t.Fatalf("no turn of the role %d at %d: %d", role, on, e)
	}
	return x
}

// wantSame wants that f does with so many steps what the interpreter does, and answers what that is.
func wantSame(t *testing.T, what string, m api.Module, f api.Fast, x api.Turn, steps int) done {
	t.Helper()
	got := run(m, f, x, steps)
	if want := base.Run(m, x, steps); !alike(got.turn, want) {
		t.Fatalf("%s: with %d steps of\n%s\n%s\nwant\n%s\nby\n%s", what, steps, told(x), told(got.turn), told(want), shown(f))
	}
	return got
}

// wantAlways wants that f does what the interpreter does with any number of steps, and answers what that is with the most.
func wantAlways(t *testing.T, what string, m api.Module, f api.Fast, x api.Turn, most int) done {
	t.Helper()
	last := wantSame(t, what, m, f, x, most)
	for steps := -1; steps <= last.turn.Used+1 && steps < most; steps++ {
		wantSame(t, what, m, f, x, steps)
	}
	return last
}

// told is all that a turn has, as a text: an empty list and none are told alike.
func told(t api.Turn) string {
	var all strings.Builder
	fmt.Fprintf(&all, "self %d next %d used %d over %d trap %d role %d state %s", t.Self, t.Next, t.Used, t.Over, t.Trap, t.Role, toldAll(t.State))
	for _, f := range t.Frames {
		fmt.Fprintf(&all, "\nframe %d at %d vars %s stack %s", f.Fn, f.At, toldAll(f.Vars), toldAll(f.Stack))
	}
	for _, e := range t.Effects {
		fmt.Fprintf(&all, "\neffect to %d role %d tag %q args %s", e.To, e.Role, e.Tag, toldAll(e.Args))
	}
	return all.String()
}

// toldAll is all that values have, even if they are not right.
func toldAll(l []api.Value) string {
	all := ""
	for _, v := range l {
		all += fmt.Sprintf("<%d %d %q%s>", v.Kind, v.N, v.S, toldAll(v.L))
	}
	return all
}

// alike tells whether two turns have the same, field by field: an empty list and none are the same.
func alike(a, b api.Turn) bool {
	return told(a) == told(b)
}

// counter is the chapter's program.
const counter = "actor c(n) { on add(x) { set n = n + x; } }"

// The chapter's example, and layer 16's.
func TestExamples(t *testing.T) {
	m := compiled(t, counter)
	wantDepths(t, "the body", m, 0, 0, 1, 2, 1, 0)
	f := wantCode(t, "by Ints", m, 0, seen(m, ints, ints))
	if outs(f) != 0 {
		t.Error("FOut:", shown(f))
	}
	if g := wantCode(t, "by nothing", m, 0, profile.Empty(m)); outs(g) != 1 {
		t.Error("not one FOut:", shown(g))
	}
	x := wantAlways(t, "4", m, f, begun(t, m, 0, 0, 7, number(3), number(4)), 100)
	if !alike(x.turn, api.Turn{Self: 7, Next: 1000, Used: 5, Over: api.Ended, State: list(number(7))}) || x.begun > 3 || x.left {
		t.Error(x.begun, x.left, told(x.turn))
	}
	x = wantAlways(t, "a", m, f, begun(t, m, 0, 0, 7, number(3), text("a")), 100)
	if !alike(x.turn, api.Turn{Self: 7, Next: 1000, Used: 3, Over: api.Trapped, Trap: api.TrapType, State: list(number(3))}) || !x.left {
		t.Error(x.left, told(x.turn))
	}
}

// module is one of a role of so many values, whose body (function 0, variables so many) has that code; a function 1 of two values; a role 1 of three values.
func module(vars int, body ...api.Ins) api.Module {
	return api.Module{
		Consts: list(number(0), number(1), number(math.MaxInt64), truth(false), truth(true), text("x"), tuple(), actor(5)),
		Tags:   []string{"a", "b"},
		Fns: []api.Fn{
			{Vars: vars, Code: body},
			{Params: 2, Vars: 2, Code: []api.Ins{ins(api.OLoad, 1), ins(api.OReturn)}},
			{Params: 3, Vars: 3, Code: []api.Ins{ins(api.OEnd)}},
		},
		Roles: []api.Part{{On: []api.On{{Tag: "a", Fn: 0}}}, {Params: 3, On: []api.On{{Tag: "a", Fn: 2}}}},
	}
}

// asFunction is a module whose function 0 has that code, and is no body.
func asFunction(vars int, all ...api.Ins) api.Module {
	m := module(vars, all...)
	m.Roles[0].On = nil
	return m
}

// The constants of module.
const (
	cZero = iota
	cOne
	cMost
	cFalse
	cTrue
	cText
	cTuple
	cActor
)

// P15.1: what each instruction takes and puts, with as much as it takes on the stack, with one more, and with one less.
func TestDepthsOfOps(t *testing.T) {
	one := ins(api.OConst)
	for _, c := range []struct {
		i           api.Ins
		takes, puts int
	}{
		{ins(api.OConst, 1), 0, 1}, {ins(api.OLoad, 1), 0, 1}, {ins(api.OStore, 1), 1, 0}, {ins(api.OSelf), 0, 1}, {ins(api.OPop), 1, 0},
		{ins(api.OAdd), 2, 1}, {ins(api.OSub), 2, 1}, {ins(api.OMul), 2, 1}, {ins(api.ODiv), 2, 1}, {ins(api.OMod), 2, 1},
		{ins(api.ONeg), 1, 1}, {ins(api.ONot), 1, 1}, {ins(api.OTruth), 1, 1}, {ins(api.OLen), 1, 1},
		{ins(api.OEq), 2, 1}, {ins(api.ONe), 2, 1}, {ins(api.OLt), 2, 1}, {ins(api.OLe), 2, 1}, {ins(api.OGt), 2, 1}, {ins(api.OGe), 2, 1},
		{ins(api.OCat), 2, 1}, {ins(api.OAt), 2, 1},
		{ins(api.OTuple, 0), 0, 1}, {ins(api.OTuple, 1), 1, 1}, {ins(api.OTuple, 5), 5, 1}, {ins(api.OTuple, 199), 199, 1},
		{ins(api.OCall, 1), 2, 1}, {ins(api.OSpawn, 0), 0, 1}, {ins(api.OSpawn, 1), 3, 1},
		{ins(api.OSend, 0, 0), 1, 0}, {ins(api.OSend, 1, 1), 2, 0}, {ins(api.OSend, 1, 198), 199, 0},
	} {
		for more := range 2 {
			m := module(2, slices.Concat(times(c.takes+more, one), []api.Ins{c.i, ins(api.OEnd)})...)
			var want []int
			for k := range c.takes + more + 1 {
				want = append(want, k)
			}
			wantDepths(t, code.Show(c.i), m, 0, append(want, more+c.puts)...)
		}
		if c.takes > 0 {
			m := module(2, slices.Concat(times(c.takes-1, one), []api.Ins{c.i, ins(api.OEnd)})...)
			wantDepths(t, code.Show(c.i)+" of too few", m, 0)
			wantError(t, code.Show(c.i)+" of too few", m, 0, seen(m, ints, ints), api.ErrShape)
		}
	}
	// Behind these there is nothing.
	for _, c := range []struct {
		i     api.Ins
		takes int
		body  bool
	}{{ins(api.OEnd), 0, true}, {ins(api.OStop), 0, true}, {ins(api.OBecome, 0), 0, true}, {ins(api.OBecome, 1), 3, true}, {ins(api.OReturn), 1, false}} {
		of := asFunction
		if c.body {
			of = module
		}
		for more := range 2 {
			var want []int
			for k := range c.takes + more + 1 {
				want = append(want, k)
			}
			all := slices.Concat(times(c.takes+more, one), []api.Ins{c.i, ins(api.OAdd), ins(api.OJump)})
			wantDepths(t, code.Show(c.i), of(0, all...), 0, append(want, -1, -1)...)
		}
		if c.takes > 0 {
			wantDepths(t, code.Show(c.i)+" of too few", of(0, append(times(c.takes-1, one), c.i)...), 0)
		}
	}
}

// P15.1: where jumps lead to, and with what.
func TestDepthsOfJumps(t *testing.T) {
	no, end := ins(api.OConst, cFalse), ins(api.OEnd)
	for _, c := range []struct {
		what string
		all  []api.Ins
		want []int
	}{
		{"a jump", []api.Ins{ins(api.OJump, 2), end, no, end}, []int{0, -1, 0, 1}},
		{"a jump to itself", []api.Ins{ins(api.OJump, 0)}, []int{0}},
		{"a jump back", []api.Ins{no, ins(api.OPop), ins(api.OJump, 0)}, []int{0, 1, 0}},
		{"a jump back with more", []api.Ins{no, ins(api.OJump, 0)}, nil},
		{"unless", []api.Ins{no, ins(api.OUnless, 3), no, end}, nil},
		{"unless to an end", []api.Ins{no, ins(api.OUnless, 4), no, end, end}, []int{0, 1, 0, 1, 0}},
		{"unless to the next", []api.Ins{no, ins(api.OUnless, 2), end}, []int{0, 1, 0}},
		{"unless of nothing", []api.Ins{ins(api.OUnless, 1), end}, nil},
		{"and", []api.Ins{no, ins(api.OAnd, 3), no, end}, []int{0, 1, 0, 1}},
		{"or", []api.Ins{no, ins(api.OOr, 3), no, end}, []int{0, 1, 0, 1}},
		{"and to the next", []api.Ins{no, ins(api.OAnd, 2), end}, nil},
		{"or to the next", []api.Ins{no, ins(api.OOr, 2), end}, nil},
		{"and, the value of which is not taken", []api.Ins{no, ins(api.OAnd, 3), end, end}, []int{0, 1, 0, 1}},
		{"or, the value of which is not taken", []api.Ins{no, ins(api.OOr, 3), end, end}, []int{0, 1, 0, 1}},
		{"and of nothing", []api.Ins{ins(api.OAnd, 1), end}, nil},
		{"or of nothing", []api.Ins{ins(api.OOr, 1), end}, nil},
		{"what cannot be reached is no matter", []api.Ins{ins(api.OJump, 3), ins(api.OPop), ins(api.OJump, 1), end, no, no, ins(api.OJump, 3)}, []int{0, -1, -1, 0, -1, -1, -1}},
		{"two ways of one depth", []api.Ins{no, ins(api.OUnless, 4), no, ins(api.OJump, 5), no, end}, []int{0, 1, 0, 1, 0, 1}},
		{"two ways of two depths", []api.Ins{no, ins(api.OUnless, 5), no, no, ins(api.OJump, 6), no, end}, nil},
		{"too few on one of two ways", []api.Ins{no, ins(api.OUnless, 4), no, end, ins(api.OPop), end}, nil},
	} {
		wantDepths(t, c.what, module(0, c.all...), 0, c.want...)
	}
}

// P15.1: as many values as there may be, and one more; of which functions nothing is told.
func TestDepthsLimits(t *testing.T) {
	one := ins(api.OConst, cOne)
	for _, n := range []int{mostStack - 1, mostStack, mostStack + 1} {
		var want []int
		for k := range n + 1 {
			want = append(want, k)
		}
		if n > mostStack {
			want = nil
		}
		wantDepths(t, fmt.Sprint(n, " values"), module(0, append(times(n, one), ins(api.OEnd))...), 0, want...)
		wantDepths(t, fmt.Sprint(n, " values of a function"), asFunction(0, append(times(n, one), ins(api.OReturn))...), 0, want...)
		// Here it is a jump that leads to one value more.
		all := append(times(n-1, one), one, ins(api.OJump, n+1), ins(api.OEnd))
		if n > 1 && n <= mostStack {
			wantDepths(t, fmt.Sprint(n, " values and a jump"), module(0, all...), 0, append(slices.Clone(want), n)...)
		}
	}
	m := module(0, ins(api.OEnd))
	for _, fn := range []int{-1, 3, math.MinInt, math.MaxInt} {
		wantDepths(t, fmt.Sprint("the function ", fn), m, fn)
		wantError(t, fmt.Sprint("the function ", fn), m, fn, api.Profile{}, api.ErrShape)
	}
	wantDepths(t, "a function", m, 1, 0, 1)
	wantDepths(t, "the last one", m, 2, 0)
	wantDepths(t, "none", api.Module{}, 0)
	// Of a module that is not right nothing is told, be the function as it may.
	m.Fns[1].Code[0].A = 2
	wantDepths(t, "a wrong module", m, 0)
	wantDepths(t, "a wrong module", m, 2)
	// Great ones.
	great := asFunction(0, append(times(1<<13-1, one, ins(api.OPop)), one, ins(api.OReturn))...)
	if got := opt.Depths(great, 0); len(got) != 1<<14 || got[1<<14-1] != 1 || got[1<<14-2] != 0 {
		t.Error(len(got))
	}
}

// P15.2: of which functions there is code, and which error counts.
func TestErrors(t *testing.T) {
	one, end := ins(api.OConst, cOne), ins(api.OEnd)
	m := module(0, end)
	for fn, want := range map[int]api.Errno{-1: api.ErrShape, 0: api.OK, 1: api.ErrShape, 2: api.OK, 3: api.ErrShape, math.MaxInt: api.ErrShape, math.MinInt: api.ErrShape} {
		if _, e := opt.Compile(m, fn, seen(m, ints, ints)); e != want {
			t.Errorf("the function %d: %d; want %d", fn, e, want)
		}
		wrong := module(0, end)
		wrong.Fns[1].Code[0].A = 2
		wantError(t, fmt.Sprint("the function ", fn, " of a wrong module"), wrong, fn, seen(m, ints, ints), api.ErrCode)
	}
	wantError(t, "none", api.Module{}, 0, api.Profile{}, api.ErrShape)
	// A body that is not shaped; other functions are no matter.
	wantError(t, "too few", module(0, ins(api.OPop), end), 0, seen(m, ints, ints), api.ErrShape)
	wantError(t, "two depths", module(0, one, ins(api.OJump, 0)), 0, seen(m, ints, ints), api.ErrShape)
	m.Fns[1].Code = []api.Ins{ins(api.OPop), one, ins(api.OReturn)}
	wantCode(t, "beside one that is not shaped", m, 0, seen(m, ints, ints))
	// How many instructions, reached or not.
	for n := mostBody - 1; n <= mostBody+1; n++ {
		for what, m := range map[string]api.Module{
			"reached": module(0, append(times(n-2, ins(api.OJump, n-1)), ins(api.OJump, n-1), end)...),
			"in turn": module(0, append(times(n/2, one, ins(api.OPop)), times(n-n/2*2, end)...)...),
			"not":     module(0, append([]api.Ins{ins(api.OJump, n-1)}, append(times(n-2, ins(api.OAdd)), end)...)...),
		} {
			if what == "in turn" {
				m.Fns[0].Code[n-1] = end
			}
			if n > mostBody {
				wantError(t, fmt.Sprint(n, what), m, 0, seen(m, ints, ints), api.ErrShape)
			} else {
				wantCode(t, fmt.Sprint(n, what), m, 0, seen(m, ints, ints))
			}
		}
	}
	// Variables, the greatest depth and 1.
	for vars := 0; vars <= mostVars; vars += 10 {
		for n := mostRoom - vars - 3; n <= mostRoom-vars+1; n++ {
			what := fmt.Sprint(vars, " variables, ", n, " values")
			all := append(times(n, one), end)
			// The greatest depth need not be the last one.
			down := append(times(n, one), ins(api.OTuple, n), ins(api.OPop), end)
			for _, body := range [][]api.Ins{all, down} {
				m := module(vars, body...)
				if vars+n+1 > mostRoom {
					wantError(t, what, m, 0, seen(m, ints, ints), api.ErrShape)
				} else {
					f := wantCode(t, what, m, 0, seen(m, ints, ints))
					wantSame(t, what, m, f, begun(t, m, 0, 0, 7), 1000)
				}
			}
		}
	}
}
