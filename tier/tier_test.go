package tier_test

import (
	"fmt"
	"math"
	"slices"
	"strconv"
	"strings"
	"testing"

	"drover/api"
	"drover/base"
	"drover/code"
	"drover/ir"
	"drover/opt"
	"drover/profile"
	"drover/tier"
	"drover/tree"
)

// The traps and limits, as the chapters and api have them.
const (
	trapType, trapFuel             = 1, 8
	mostBytes, mostPieces, deepest = 4096, 256, 16
	mostParts, mostRegs, mostNeeds = 255, 1000, 100

	ints = 1 << 1 // a set of kinds: Ints alone
)

// number, truth, text, actor and tuple are values.
func number(n int64) api.Value { return api.Value{Kind: api.VInt, N: n} }
func truth(is bool) api.Value {
	if is {
		return api.Value{Kind: api.VBool, N: 1}
	}
	return api.Value{Kind: api.VBool}
}
func text(s string) api.Value         { return api.Value{Kind: api.VBytes, S: s} }
func actor(n int64) api.Value         { return api.Value{Kind: api.VActor, N: n} }
func tuple(l ...api.Value) api.Value  { return api.Value{Kind: api.VTuple, L: l} }
func list(l ...api.Value) []api.Value { return l }

// deep is v within so many tuples.
func deep(n int, v api.Value) api.Value {
	for range n {
		v = tuple(v)
	}
	return v
}

// compiled is the module of a text.
func compiled(t *testing.T, text string) api.Module {
	t.Helper()
	p, f := tree.Parse(text)
	m, g := code.Compile(p)
	if f != (api.Fault{}) || g != (api.Fault{}) || code.Check(m) != api.OK {
		t.Fatalf("%v %v of %s", f, g, text)
	}
	return m
}

// seen is a profile of m in which Ints alone were seen everywhere.
func seen(m api.Module) api.Profile {
	p := profile.Empty(m)
	for i := range p.Fns {
		for k := range p.Fns[i].Tops {
			p.Fns[i].Tops[k] = [2]uint8{ints, ints}
		}
	}
	return p
}

// told is all that a turn has, as a text: an empty list and none are told alike.
func told(t api.Turn) string {
	var all strings.Builder
	fmt.Fprintf(&all, "self %d next %d used %d over %d trap %d role %d state %s", t.Self, t.Next, t.Used, t.Over, t.Trap, t.Role, toldAll(t.State))
	for _, f := range t.Frames {
		fmt.Fprintf(&all, "\nframe %d at %d vars %s stack %s", f.Fn, f.At, toldAll(f.Vars), toldAll(f.Stack))
	}
	for _, e := range t.Effects {
		fmt.Fprintf(&all, "\neffect to %d role %d tag %q args %s", e.To, e.Role, e.Tag, toldAll(e.Args))
	}
	return all.String()
}

// toldAll is all that values have, even if they are not right.
func toldAll(l []api.Value) string {
	var all strings.Builder
	for _, v := range l {
		fmt.Fprintf(&all, "<%d %d %q%s>", v.Kind, v.N, v.S, toldAll(v.L))
	}
	return all.String()
}

// shown is a code as a text.
func shown(f api.Fast) string {
	var all strings.Builder
	fmt.Fprintf(&all, "fn %d regs %d needs %v", f.Fn, f.Regs, f.Needs)
	for k, s := range f.Code {
		fmt.Fprintf(&all, "\n%d %s", k, ir.Show(s))
		if s.Exit >= 0 && s.Exit < len(f.Exits) {
			fmt.Fprintf(&all, " out by %v", f.Exits[s.Exit])
		}
	}
	return all.String()
}

// brief is a text as far as it is of use in a test's answer.
func brief(s string) string {
	return s[:min(len(s), 400)]
}

// wantTurn wants that turn, whole, and that so many steps of the code were begun.
func wantTurn(t *testing.T, what string, got api.Turn, begun int, want api.Turn, wantBegun int) {
	t.Helper()
	if told(got) != told(want) || begun != wantBegun {
		t.Errorf("%s: %d begun,\n%s\nwant %d begun,\n%s", brief(what), begun, brief(told(got)), wantBegun, brief(told(want)))
	}
}

// wantRun wants that of Run.
func wantRun(t *testing.T, what string, m api.Module, f api.Fast, x api.Turn, steps int, want api.Turn, wantBegun int) {
	t.Helper()
	got, begun := tier.Run(m, f, x, steps)
	wantTurn(t, what, got, begun, want, wantBegun)
}

// laid is code as a text tells it: steps with ; between, each of a word as ir.Show has it, A, B and C as far as they are not 0, and l, o or x ahead of Lead (else 0), Own (else 1), Exit (else 0 of what may leave, -1 of what may not).
func laid(text string) []api.Spec {
	ops := map[string]api.FOp{}
	for op := api.FMove; op <= api.FOut; op++ {
		word, _, _ := strings.Cut(ir.Show(api.Spec{Op: op}), " ")
		ops[word] = op
	}
	var all []api.Spec
	for _, line := range strings.Split(text, ";") {
		words := strings.Fields(line)
		s := api.Spec{Op: ops[words[0]], Own: 1}
		switch s.Op {
		case api.FMove, api.FConst, api.FSelf, api.FEq, api.FNe, api.FJump, api.FEnd:
			s.Exit = -1
		}
		free := []*int{&s.A, &s.B, &s.C}
		for _, word := range words[1:] {
			n, _ := strconv.Atoi(strings.TrimLeft(word, "lox"))
			switch word[0] {
			case 'l':
				s.Lead = n
			case 'o':
				s.Own = n
			case 'x':
				s.Exit = n
			default:
				*free[0], free = n, free[1:]
			}
		}
		all = append(all, s)
	}
	return all
}

// The functions of having, and the place of the one constant of it that is a tuple.
const (
	fnPair, fnBody, fnBare, fnOther, fnSum = 0, 1, 2, 3, 4

	cTuple = 2
)

// having is a module: a role of two values, with two bodies; a role of none, with one; two functions of two variables. What fnBody does tells where it was begun: from 0, 2 and 4 on it makes a tuple of as many values of the stack, from 6 on it calls fnSum, at 20 it stores what is on the stack; its state is this, and its variable 4.
func having(t *testing.T) api.Module {
	t.Helper()
	ins := func(op api.Op, with ...int) api.Ins {
		with = append(with, 0, 0)
		return api.Ins{Op: op, A: with[0], B: with[1]}
	}
	end := []api.Ins{ins(api.OLoad, 4), ins(api.OStore, 1), ins(api.OEnd)}
	body := []api.Ins{ins(api.OTuple), ins(api.OJump, 20), ins(api.OTuple, 2), ins(api.OJump, 20), ins(api.OTuple, 4), ins(api.OJump, 20), ins(api.OLoad, 2), ins(api.OLoad, 3), ins(api.OCall, fnSum)}
	for len(body) < 20 {
		body = append(body, ins(api.OJump, 20))
	}
	body = append(append(body, ins(api.OStore)), end...)
	m := api.Module{
		Consts: list(text("left"), text("x"), tuple(number(1), tuple(text("b"))), truth(true), actor(5), number(math.MaxInt64), number(0)),
		Tags:   []string{"go", "a", "b"},
		Fns: []api.Fn{
			{Params: 1, Vars: 2, Code: []api.Ins{ins(api.OLoad), ins(api.OLoad, 1), ins(api.OTuple, 2), ins(api.OReturn)}},
			{Params: 3, Vars: 5, Code: body},
			{Params: 0, Vars: 0, Code: []api.Ins{ins(api.OStop), ins(api.OEnd)}},
			{Params: 2, Vars: 3, Code: []api.Ins{ins(api.OStop)}},
			{Params: 2, Vars: 2, Code: []api.Ins{ins(api.OLoad), ins(api.OLoad, 1), ins(api.OAdd), ins(api.OReturn)}},
		},
		Roles: []api.Part{
			{Params: 2, On: []api.On{{Tag: "go", Params: 1, Fn: fnBody}, {Tag: "a", Fn: fnOther}}},
			{Params: 0, On: []api.On{{Tag: "go", Fn: fnBare}}},
		},
	}
	if code.Check(m) != api.OK {
		t.Fatal(m)
	}
	return m
}

// with is a turn of fnBody at its begin, with these variables ahead of others: the variable k is -k else.
func with(vars ...api.Value) api.Turn {
	for k := len(vars); k < 5; k++ {
		vars = append(vars, number(int64(-k)))
	}
	return api.Turn{Frames: []api.Frame{{Fn: fnBody, Vars: slices.Clone(vars)}}, Self: 7, Next: 50, State: list(text("n"), text("k"))}
}

// back is a way back to fnBody at that instruction, with its variables as they are, and these registers on the stack.
func back(at int, stack ...int) []api.Back {
	return []api.Back{{Fn: fnBody, At: at, Vars: []int{0, 1, 2, 3, 4}, Stack: stack}}
}

// fast is code of fnBody, of eleven registers, which may be.
func fast(t *testing.T, m api.Module, steps string, exits ...[]api.Back) api.Fast {
	t.Helper()
	f := api.Fast{Fn: fnBody, Regs: 11, Code: laid(steps), Exits: exits}
	if e := ir.Check(m, f); e != api.OK {
		t.Fatalf("%d of %s", e, shown(f))
	}
	return f
}

// ended is what x comes to where it ends with that state, these steps and effects.
func ended(x api.Turn, used int, effects []api.Effect, state ...api.Value) api.Turn {
	x.Frames, x.Effects, x.Over, x.Trap, x.Used, x.State = nil, effects, api.Ended, 0, x.Used+used, state
	return x
}

// trapped is what x comes to where it has that trap.
func trapped(x api.Turn, used, trap int) api.Turn {
	x.Frames, x.Effects, x.Over, x.Trap, x.Used = nil, nil, api.Trapped, trap, x.Used+used
	return x
}

// The chapter's examples.
func TestExamples(t *testing.T) {
	m := compiled(t, "actor c(n) { on add(x) { set n = n + x; } }")
	f, e := opt.Compile(m, 0, seen(m))
	if e != api.OK {
		t.Fatal(e)
	}
	for _, c := range []struct {
		x    api.Value
		want api.Turn
	}{
		{number(4), api.Turn{Self: 7, Next: 50, Over: api.Ended, Used: 5, State: list(number(7))}},
		{text("a"), api.Turn{Self: 7, Next: 50, Over: api.Trapped, Trap: trapType, Used: 3, State: list(number(3))}},
	} {
		x, e := base.Begin(m, 0, list(number(3)), "add", list(c.x), 7, 50)
		got, begun := tier.Run(m, f, x, 300)
		if e != api.OK || begun < 1 || begun > 3 {
			t.Error(e, begun)
		}
		wantTurn(t, "add", got, 0, c.want, 0)
		wantTurn(t, "add by the interpreter", base.Run(m, x, 300), 0, c.want, 0)
	}
}

// P16.1: a code that may be, and a turn that fits it: the code's steps are done, whatever the turn has otherwise.
func TestFits(t *testing.T) {
	m := having(t)
	f := fast(t, m, "const 0 0; end")
	for what, do := range map[string]func(x *api.Turn){
		"as it is":                  func(x *api.Turn) {},
		"lists of nothing":          func(x *api.Turn) { x.Frames[0].Stack, x.Effects = []api.Value{}, []api.Effect{} },
		"other numbers":             func(x *api.Turn) { x.Self, x.Next, x.Used, x.Trap = -1, math.MinInt64, -3, 77 },
		"great numbers":             func(x *api.Turn) { x.Self, x.Next, x.Used, x.Trap = math.MaxInt64, math.MaxInt64, 1<<60, -1 },
		"another state":             func(x *api.Turn) { x.State = list(tuple(), number(1)) },
		"a state of the same value": func(x *api.Turn) { x.State[0] = text("left") },
	} {
		x := with(number(1), text("v1"))
		do(&x)
		wantRun(t, what, m, f, x, 300, ended(x, 2, nil, text("left"), text("v1")), 2)
		if x.Frames == nil || x.Over != api.Going {
			t.Error(what, "was changed:", told(x))
		}
	}
	// What it rests on holds.
	need := func(fn int) api.Need { return api.Need{Fn: fn, Sum: ir.Sum(m, fn)} }
	var many []api.Need
	for k := range mostNeeds {
		many = append(many, need(k%len(m.Fns)))
	}
	for _, needs := range [][]api.Need{{}, {need(fnPair)}, {need(fnBody)}, {need(fnSum), need(fnPair), need(fnSum)}, many} {
		f.Needs = needs
		wantRun(t, fmt.Sprint(needs), m, f, with(), 300, ended(with(), 2, nil, text("left"), number(-1)), 2)
	}
}

// wantNotFit wants that f is not used for x, so that x comes to what the interpreter makes of it.
func wantNotFit(t *testing.T, what string, m api.Module, f api.Fast, x api.Turn) {
	t.Helper()
	for _, steps := range []int{300, 3, 1, 0, -1, math.MinInt} {
		wantRun(t, what, m, f, x, steps, base.Run(m, x, steps), 0)
	}
}

// P16.1: turns that do not fit.
func TestTurnsThatDoNotFit(t *testing.T) {
	m := having(t)
	f := fast(t, m, "const 0 0; end")
	for what, do := range map[string]func(x *api.Turn){
		"no frame": func(x *api.Turn) { x.Frames = nil },
		"two frames": func(x *api.Turn) {
			x.Frames = append(x.Frames, api.Frame{Fn: fnPair, Vars: list(number(1), number(2))})
		},
		"twice the frame":           func(x *api.Turn) { x.Frames = append(x.Frames, x.Frames[0]) },
		"another body's frame":      func(x *api.Turn) { x.Frames[0] = api.Frame{Fn: fnOther, Vars: list(number(1), number(2), number(3))} },
		"another role's":            func(x *api.Turn) { x.Role, x.State, x.Frames[0] = 1, nil, api.Frame{Fn: fnBare} },
		"another role":              func(x *api.Turn) { x.Role, x.State = 1, nil },
		"no role":                   func(x *api.Turn) { x.Role = -1 },
		"a function's frame":        func(x *api.Turn) { x.Frames[0] = api.Frame{Fn: fnPair, Vars: list(number(1), number(2))} },
		"a frame of no function":    func(x *api.Turn) { x.Frames[0].Fn = 9 },
		"behind the begin":          func(x *api.Turn) { x.Frames[0].At = 20; x.Frames[0].Stack = list(number(1)) },
		"behind the first":          func(x *api.Turn) { x.Frames[0].At = 1 },
		"ahead of the begin":        func(x *api.Turn) { x.Frames[0].At = -1 },
		"a value on the stack":      func(x *api.Turn) { x.Frames[0].Stack = list(number(1)) },
		"a send":                    func(x *api.Turn) { x.Effects = []api.Effect{{To: 1, Role: -1, Tag: "a"}} },
		"a spawn":                   func(x *api.Turn) { x.Effects = []api.Effect{{To: 49, Role: 1}} },
		"a variable too few":        func(x *api.Turn) { x.Frames[0].Vars = x.Frames[0].Vars[:4] },
		"a variable too many":       func(x *api.Turn) { x.Frames[0].Vars = append(x.Frames[0].Vars, number(1)) },
		"a variable that is none":   func(x *api.Turn) { x.Frames[0].Vars[4] = api.Value{} },
		"a variable below 0":        func(x *api.Turn) { x.Frames[0].Vars[0] = actor(-1) },
		"no state":                  func(x *api.Turn) { x.State = nil },
		"a state that is not right": func(x *api.Turn) { x.State[1] = api.Value{Kind: 6} },
		"ended":                     func(x *api.Turn) { x.Over = api.Ended },
		"stopped":                   func(x *api.Turn) { x.Over = api.Stopped },
		"became":                    func(x *api.Turn) { x.Over = api.Became },
		"trapped":                   func(x *api.Turn) { x.Over, x.Trap = api.Trapped, 3 },
		"of no over":                func(x *api.Turn) { x.Over = 5 },
		"nothing":                   func(x *api.Turn) { *x = api.Turn{} },
	} {
		x := with(number(1), text("v1"))
		do(&x)
		wantNotFit(t, what, m, f, x)
	}
}

// P16.1: code that may not be, or does not hold.
func TestCodeThatDoesNotFit(t *testing.T) {
	for what, do := range map[string]func(m *api.Module, f *api.Fast){
		"nothing":                   func(m *api.Module, f *api.Fast) { *f = api.Fast{} },
		"another body's":            func(m *api.Module, f *api.Fast) { f.Fn = fnOther },
		"another role's":            func(m *api.Module, f *api.Fast) { f.Fn = fnBare },
		"a function's":              func(m *api.Module, f *api.Fast) { f.Fn = fnPair },
		"below all functions":       func(m *api.Module, f *api.Fast) { f.Fn = -1 },
		"behind all functions":      func(m *api.Module, f *api.Fast) { f.Fn = math.MaxInt },
		"too few registers":         func(m *api.Module, f *api.Fast) { f.Regs = 4 },
		"too many registers":        func(m *api.Module, f *api.Fast) { f.Regs = mostRegs + 1 },
		"registers below 0":         func(m *api.Module, f *api.Fast) { f.Regs = math.MinInt },
		"no code":                   func(m *api.Module, f *api.Fast) { f.Code = nil },
		"no end":                    func(m *api.Module, f *api.Fast) { f.Code = f.Code[:1] },
		"a step of no Op":           func(m *api.Module, f *api.Fast) { f.Code[0].Op = 23 },
		"a register that is none":   func(m *api.Module, f *api.Fast) { f.Code[0].A = 11 },
		"a constant that is none":   func(m *api.Module, f *api.Fast) { f.Code[0].B = 7 },
		"a Lead below 0":            func(m *api.Module, f *api.Fast) { f.Code[0].Lead = -1 },
		"an Own that is too great":  func(m *api.Module, f *api.Fast) { f.Code[0].Own = 2 },
		"a way back that is none":   func(m *api.Module, f *api.Fast) { f.Code[0] = api.Spec{Op: api.FGuard, B: 1, Exit: 0} },
		"a way back of no frames":   func(m *api.Module, f *api.Fast) { f.Exits = [][]api.Back{{}} },
		"a jump that does not cost": func(m *api.Module, f *api.Fast) { f.Code[1] = api.Spec{Op: api.FJump, Exit: -1} },
		"a need of no function":     func(m *api.Module, f *api.Fast) { f.Needs = []api.Need{{Fn: 5}} },
		"a need that does not hold": func(m *api.Module, f *api.Fast) { f.Needs = []api.Need{{Fn: fnSum, Sum: ir.Sum(*m, fnSum) + 1}} },
		"one of needs": func(m *api.Module, f *api.Fast) {
			f.Needs = []api.Need{{Fn: fnSum, Sum: ir.Sum(*m, fnSum)}, {Fn: fnPair, Sum: ir.Sum(*m, fnSum)}}
		},
		"another function": func(m *api.Module, f *api.Fast) {
			f.Needs = []api.Need{{Fn: fnSum, Sum: ir.Sum(*m, fnSum)}}
			m.Fns[fnSum].Code[2].Op = api.OSub
		},
		"too many needs": func(m *api.Module, f *api.Fast) {
			f.Needs = slices.Repeat([]api.Need{{Fn: fnSum, Sum: ir.Sum(*m, fnSum)}}, mostNeeds+1)
		},
		"a wrong module":        func(m *api.Module, f *api.Fast) { m.Fns[fnBare].Code[0].A = 1 },
		"a module of nothing":   func(m *api.Module, f *api.Fast) { *m = api.Module{} },
		"a module without body": func(m *api.Module, f *api.Fast) { m.Roles = m.Roles[1:] },
	} {
		m := having(t)
		f := fast(t, m, "const 0 0; end")
		do(&m, &f)
		wantNotFit(t, what, m, f, with(number(1), text("v1")))
		wantNotFit(t, what, m, f, api.Turn{})
	}
}
