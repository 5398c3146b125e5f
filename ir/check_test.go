package ir_test

import (
	"fmt"
	"math"
	"slices"
	"testing"

	"drover/api"
	"drover/ir"
)

// toldAll is all that a thing has, as a text; an empty list and none are told alike.
func toldAll(thing any) string {
	return fmt.Sprintf("%+v", thing)
}

// end is the step that may be a last one.
func end() api.Spec {
	return api.Spec{Op: api.FEnd, Own: 1, Exit: -1}
}

// back is a way back of add's frame.
func back() []api.Back {
	return []api.Back{{Fn: fnAdd, At: 2, Vars: []int{0, 1}, Stack: []int{0, 1}}}
}

// backs is so many ways back of add's frame.
func backs(n int) [][]api.Back {
	all := make([][]api.Back, n)
	for i := range all {
		all[i] = back()
	}
	return all
}

// added is code of add with ten registers and three ways back, of such a step, two that do nothing much, and an end.
func added(s api.Spec) api.Fast {
	return api.Fast{Fn: fnAdd, Regs: 10, Exits: backs(3), Code: []api.Spec{
		s, {Op: api.FSelf, A: 9, Exit: -1}, {Op: api.FMove, A: 9, B: 8, Own: 1, Exit: -1}, end(),
	}}
}

// wantCheck wants that Check takes f, or not.
func wantCheck(t *testing.T, what string, m api.Module, f api.Fast, takes bool) {
	t.Helper()
	want := api.ErrShape
	if takes {
		want = api.OK
	}
	if e := ir.Check(m, f); e != want {
		t.Errorf("%s: %d, not %d, of %+v", what, e, want, f)
	}
}

// span is from the first to the second of two.
type span [2]int

// What a number of a step of added may be: four steps, ten registers, three ways back; mixed has two tags and the constants 0, 7 and 8.
var (
	zero, none, reg, way, place = span{0, 0}, span{-1, -1}, span{0, 9}, span{0, 2}, span{0, 3}
	constant, tag, kind         = span{0, 2}, span{0, 1}, span{1, 5}
)

// row is an Op, a step of it that may be, and what its numbers may be while all others stay.
type row struct {
	s           api.Spec
	a, b, c, to span
}

// rows is one of each Op.
func rows() []row {
	all := []row{
		{api.Spec{Op: api.FMove, A: 1, B: 2, Exit: -1}, reg, reg, zero, none},
		{api.Spec{Op: api.FConst, A: 1, B: 1, Exit: -1}, reg, constant, zero, none},
		{api.Spec{Op: api.FSelf, A: 1, Exit: -1}, reg, zero, zero, none},
		{api.Spec{Op: api.FGuard, A: 1, B: 2}, reg, kind, zero, way},
		{api.Spec{Op: api.FNot, A: 1, B: 2}, reg, reg, zero, way},
		{api.Spec{Op: api.FEq, A: 1, B: 2, C: 3, Exit: -1}, reg, reg, reg, none},
		{api.Spec{Op: api.FNe, A: 1, B: 2, C: 3, Exit: -1}, reg, reg, reg, none},
		{api.Spec{Op: api.FJump, A: 1, Own: 1, Exit: -1}, place, zero, zero, none},
		{api.Spec{Op: api.FIf, A: 1, B: 2, Own: 1}, place, reg, zero, way},
		{api.Spec{Op: api.FSend, A: 1, B: 5, C: 4}, tag, span{0, 5}, span{0, 4}, way},
		{api.Spec{Op: api.FSend, A: 1, B: 9, C: 0}, tag, reg, zero, way},
		{api.Spec{Op: api.FSend, A: 1, B: 0, C: 9}, tag, zero, span{0, 9}, way},
		{api.Spec{Op: api.FTuple, A: 1, B: 5, C: 5}, reg, span{0, 5}, span{0, 5}, way},
		{api.Spec{Op: api.FTuple, A: 1, B: 9, C: 0}, reg, reg, span{0, 1}, way},
		{api.Spec{Op: api.FTuple, A: 1, B: 0, C: 10}, reg, zero, span{0, 10}, way},
		{api.Spec{Op: api.FEnd, Exit: -1}, zero, zero, zero, none},
		{api.Spec{Op: api.FOut}, zero, zero, zero, way},
	}
	for _, op := range []api.FOp{api.FAdd, api.FSub, api.FMul, api.FDiv, api.FMod, api.FLt, api.FLe, api.FGt, api.FGe} {
		all = append(all, row{api.Spec{Op: op, A: 1, B: 2, C: 3}, reg, reg, reg, way})
	}
	return all
}

// P14.2: each number of each Op, on both sides of what it may be.
func TestCheckSteps(t *testing.T) {
	m := compiled(t, mixed)
	if len(m.Consts) != 3 || len(m.Tags) != 2 || len(m.Fns) != manyFns {
		t.Fatal(m)
	}
	for _, row := range rows() {
		try := func(what string, may span, number func(s *api.Spec) *int) {
			t.Helper()
			nums := []int{math.MinInt, math.MaxInt, math.MaxInt - 9, 1 << 20}
			for n := -3; n < 14; n++ {
				nums = append(nums, n)
			}
			for _, n := range nums {
				s := row.s
				*number(&s) = n
				wantCheck(t, what+" of "+ir.Show(s), m, added(s), may[0] <= n && n <= may[1])
			}
		}
		try("A", row.a, func(s *api.Spec) *int { return &s.A })
		try("B", row.b, func(s *api.Spec) *int { return &s.B })
		try("C", row.c, func(s *api.Spec) *int { return &s.C })
		try("Exit", row.to, func(s *api.Spec) *int { return &s.Exit })
	}
}

// P14.2: a step that may not be is found wherever it is, and a step of no Op.
func TestCheckAnyStep(t *testing.T) {
	m := compiled(t, mixed)
	for at := range 4 {
		f := added(api.Spec{Op: api.FSelf, Exit: -1})
		f.Code[at].Exit = 3
		wantCheck(t, "Exit", m, f, false)
		f = added(api.Spec{Op: api.FSelf, Exit: -1})
		f.Code[at].Lead = -1
		wantCheck(t, "Lead", m, f, false)
	}
	for op := range 256 {
		if op == 0 || op > int(api.FOut) {
			wantCheck(t, "no Op", m, added(api.Spec{Op: api.FOp(op), Exit: -1}), false)
			wantCheck(t, "no Op", m, added(api.Spec{Op: api.FOp(op)}), false)
		}
	}
}

// P14.2: 255 values at most, where there are registers enough.
func TestCheckParts(t *testing.T) {
	m := compiled(t, mixed)
	for _, op := range []api.FOp{api.FSend, api.FTuple} {
		for _, c := range []struct {
			b, c int
			may  bool
		}{
			{0, 254, true}, {0, 255, true}, {0, 256, false}, {0, 999, false}, {744, 255, true}, {744, 256, false},
			{745, 254, true}, {745, 255, op == api.FTuple}, {746, 255, false}, {746, 254, op == api.FTuple},
			{999, 0, true}, {999, 1, op == api.FTuple}, {1000, 0, false}, {999, 2, false}, {-1, 1, false}, {1, -1, false},
			{math.MaxInt, 1, false}, {1, math.MaxInt, false}, {math.MaxInt, math.MaxInt, false}, {math.MinInt, math.MinInt, false},
		} {
			f := added(api.Spec{Op: op, B: c.b, C: c.c})
			f.Regs = mostRegs
			wantCheck(t, "parts", m, f, c.may)
		}
	}
}

// P14.2: Lead and Own of each Op.
func TestCheckCounts(t *testing.T) {
	m := compiled(t, mixed)
	for _, row := range rows() {
		jumps := row.s.Op == api.FJump || row.s.Op == api.FIf
		for _, lead := range []int{math.MinInt, -2, -1, 0, 1, 2, mostLead - 1, mostLead, mostLead + 1, 1 << 20, math.MaxInt} {
			for _, own := range []int{math.MinInt, -1, 0, 1, 2, 3, mostLead, math.MaxInt} {
				s := row.s
				s.Lead, s.Own = lead, own
				may := lead >= 0 && lead <= mostLead && (own == 0 || own == 1) && !(jumps && lead == 0 && own == 0)
				wantCheck(t, ir.Show(s), m, added(s), may)
			}
		}
	}
}

// P14.2: which step may be the last one, and how many there are.
func TestCheckLast(t *testing.T) {
	m := compiled(t, mixed)
	for _, row := range rows() {
		op := row.s.Op
		may := op == api.FJump || op == api.FEnd || op == api.FOut
		f := added(end())
		f.Code[3] = row.s
		wantCheck(t, "last", m, f, may)
		f.Code = []api.Spec{row.s}
		if op == api.FJump || op == api.FIf {
			f.Code[0].A = 0
		}
		wantCheck(t, "the only one", m, f, may)
	}
	f := added(end())
	f.Code = nil
	wantCheck(t, "no step", m, f, false)
	f.Code = []api.Spec{}
	wantCheck(t, "an empty list", m, f, false)
	for n, may := range map[int]bool{1: true, 2: true, mostSteps - 1: true, mostSteps: true, mostSteps + 1: false, 2 * mostSteps: false} {
		f.Code = slices.Repeat([]api.Spec{end()}, n)
		wantCheck(t, fmt.Sprint(n, " steps"), m, f, may)
	}
	f.Code = slices.Repeat([]api.Spec{{Op: api.FJump, A: mostSteps - 1, Own: 1, Exit: -1}}, mostSteps)
	wantCheck(t, "to the last one of 4000", m, f, true)
}

// P14.2: which function it may be of, and how many registers it has.
func TestCheckHead(t *testing.T) {
	m := compiled(t, mixed)
	vars := []int{1, 0, 2, 1, 4, 0}
	for fn := range manyFns {
		for _, regs := range []int{math.MinInt, -1, 0, 1, 2, 3, 4, 5, mostRegs - 1, mostRegs, mostRegs + 1, math.MaxInt} {
			f := api.Fast{Fn: fn, Regs: regs, Code: []api.Spec{end()}}
			wantCheck(t, fmt.Sprint("registers of ", fn), m, f, fn >= fnAdd && regs >= vars[fn] && regs <= mostRegs)
		}
	}
	for _, fn := range []int{math.MinInt, -1, manyFns, manyFns + 1, math.MaxInt} {
		wantCheck(t, "no function", m, api.Fast{Fn: fn, Regs: 10, Code: []api.Spec{end()}}, false)
	}
	// Variables beside the parameters count, too.
	m.Fns[fnNil].Vars = 30
	wantCheck(t, "29 registers", m, api.Fast{Fn: fnNil, Regs: 29, Code: []api.Spec{end()}}, false)
	wantCheck(t, "30 registers", m, api.Fast{Fn: fnNil, Regs: 30, Code: []api.Spec{end()}}, true)
}

// withExits is code of add, ten registers and an end, with these ways back.
func withExits(exits ...[]api.Back) api.Fast {
	return api.Fast{Fn: fnAdd, Regs: 10, Code: []api.Spec{end()}, Exits: exits}
}

// P14.2: the frames of a way back.
func TestCheckExit(t *testing.T) {
	m := compiled(t, mixed)
	mine, g, h := back()[0], api.Back{Fn: fnG, At: 1, Vars: []int{9}, Stack: []int{3, 3}}, api.Back{Fn: fnH}
	other := api.Back{Fn: fnGet, Vars: []int{0}}
	for _, c := range []struct {
		what   string
		frames []api.Back
		may    bool
	}{
		{"one", []api.Back{mine}, true},
		{"two", []api.Back{mine, g}, true},
		{"three", []api.Back{mine, g, h}, true},
		{"the same three", []api.Back{mine, h, h}, true},
		{"four", []api.Back{mine, g, h, g}, false},
		{"none", nil, false},
		{"an empty list", []api.Back{}, false},
		{"a function first", []api.Back{g}, false},
		{"a function ahead", []api.Back{g, mine}, false},
		{"another body", []api.Back{other}, false},
		{"another body behind", []api.Back{mine, other}, false},
		{"another body last", []api.Back{mine, g, other}, false},
		{"itself behind", []api.Back{mine, mine}, false},
		{"itself last", []api.Back{mine, g, mine}, false},
	} {
		wantCheck(t, c.what, m, withExits(c.frames), c.may)
		wantCheck(t, c.what+", behind another", m, withExits(back(), c.frames, back()), c.may)
		wantCheck(t, c.what+", last", m, withExits(back(), back(), c.frames), c.may)
	}
	// What is not known of Fn is so for all frames.
	for _, fn := range []int{math.MinInt, -1, manyFns, math.MaxInt} {
		wantCheck(t, "no function", m, withExits([]api.Back{{Fn: fn}}), false)
		wantCheck(t, "no function behind", m, withExits([]api.Back{mine, {Fn: fn}}), false)
	}
}

// P14.2: At, Vars and Stack of each frame.
func TestCheckFrame(t *testing.T) {
	m := compiled(t, mixed)
	frames := func() []api.Back {
		return []api.Back{back()[0], {Fn: fnG, At: 1, Vars: []int{9}, Stack: []int{3, 3}}, {Fn: fnH, Vars: []int{}}}
	}
	for i, fn := range []int{fnAdd, fnG, fnH} {
		try := func(what string, may bool, do func(b *api.Back)) {
			t.Helper()
			all := frames()
			do(&all[i])
			wantCheck(t, what, m, withExits(back(), all), may)
		}
		last := len(m.Fns[fn].Code) - 1
		for _, at := range []int{math.MinInt, -1, 0, last, last + 1, math.MaxInt} {
			try("At", at == 0 || at == last, func(b *api.Back) { b.At = at })
		}
		for n := range 5 {
			try("how many Vars", n == m.Fns[fn].Vars, func(b *api.Back) { b.Vars = make([]int, n) })
		}
		for _, n := range []int{0, 1, mostStack - 1, mostStack, mostStack + 1, 3 * mostStack} {
			try("how many Stack", n <= mostStack, func(b *api.Back) { b.Stack = make([]int, n) })
		}
		for _, reg := range []int{math.MinInt, -1, 0, 9, 10, math.MaxInt} {
			may := reg == 0 || reg == 9
			try("a register of Stack", may, func(b *api.Back) { b.Stack = []int{reg, 0, 9} })
			try("the last register of Stack", may, func(b *api.Back) { b.Stack = []int{0, 9, reg} })
			for k := range m.Fns[fn].Vars {
				try("a register of Vars", may, func(b *api.Back) { b.Vars[k] = reg })
			}
		}
	}
}

// P14.2: how many ways back, and how many needs of which function.
func TestCheckMany(t *testing.T) {
	m := compiled(t, mixed)
	for _, n := range []int{0, 1, mostExits - 1, mostExits, mostExits + 1} {
		wantCheck(t, fmt.Sprint(n, " ways back"), m, withExits(backs(n)...), n <= mostExits)
	}
	f := withExits(backs(mostExits)...)
	f.Code = []api.Spec{{Op: api.FOut, Exit: mostExits - 1}}
	wantCheck(t, "by the last one", m, f, true)
	f.Code[0].Exit++
	wantCheck(t, "by none", m, f, false)
	for _, n := range []int{0, 1, mostNeeds - 1, mostNeeds, mostNeeds + 1, 5 * mostNeeds} {
		f := withExits()
		f.Needs = make([]api.Need, n)
		wantCheck(t, fmt.Sprint(n, " needs"), m, f, n <= mostNeeds)
	}
	for _, fn := range []int{math.MinInt, -1, 0, fnAdd, manyFns - 1, manyFns, math.MaxInt} {
		f := withExits()
		for _, f.Needs = range [][]api.Need{{{Fn: fn}}, {{Fn: fn, Sum: math.MaxUint32}, {Fn: 1}}, {{Fn: 1}, {Fn: 1}, {Fn: fn, Sum: 7}}} {
			wantCheck(t, "a need", m, f, fn >= 0 && fn < manyFns)
		}
	}
}

// P14.2: the module's fault counts first.
func TestCheckModule(t *testing.T) {
	right, wrong := withExits(back()), api.Fast{Fn: -1}
	wantCheck(t, "right", compiled(t, mixed), right, true)
	for what, spoil := range map[string]func(m *api.Module){
		"code":     func(m *api.Module) { m.Fns[fnG].Code = nil },
		"constant": func(m *api.Module) { m.Consts[0].Kind = 9 },
		"role":     func(m *api.Module) { m.Roles[0].On[0].Fn = manyFns },
		"body":     func(m *api.Module) { m.Roles[0].On[0].Fn = -1 },
	} {
		m := compiled(t, mixed)
		spoil(&m)
		for _, f := range []api.Fast{right, wrong, {}} {
			if e := ir.Check(m, f); e != api.ErrCode {
				t.Error(what, e)
			}
		}
	}
	wantCheck(t, "of no module", api.Module{}, right, false)
	wantCheck(t, "nothing at all", api.Module{}, api.Fast{}, false)
}

// The example.
func TestCheckExample(t *testing.T) {
	m := compiled(t, counter)
	f := api.Fast{Fn: 0, Regs: 3, Code: []api.Spec{{Op: api.FAdd, A: 2, B: 0, C: 1, Lead: 2, Own: 1}, end()}, Exits: [][]api.Back{{{Fn: 0, At: 2, Vars: []int{0, 1}, Stack: []int{0, 1}}}}}
	wantCheck(t, "Regs 3", m, f, true)
	f.Regs = 1
	wantCheck(t, "Regs 1", m, f, false)
}

// R3, R4: what is handed in stays, with its spare room.
func TestCheckLeaves(t *testing.T) {
	m, c := compiled(t, mixed), compiled(t, mixed)
	f := roomy(withExits(back(), []api.Back{back()[0], {Fn: fnG, Vars: []int{0}}}))
	f.Needs = append(make([]api.Need, 0, 5), api.Need{Fn: 1, Sum: 2})
	was, room := toldAll(f), spare(f)
	for range 3 {
		wantCheck(t, "again", m, f, true)
	}
	if toldAll(m) != toldAll(c) || toldAll(f) != was || spare(f) != room {
		t.Error("it was changed")
	}
}
