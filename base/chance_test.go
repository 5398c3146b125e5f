package base_test

import (
	"bytes"
	"fmt"
	"math"
	"math/big"
	"math/rand/v2"
	"slices"
	"strings"
	"testing"

	"drover/api"
	"drover/base"
	"drover/code"
	"drover/value"
)

// reckoned is what becomes of two numbers, by numbers without end, or the trap.
func reckoned(op api.Op, a, b int64) (int64, int) {
	x, y, n := big.NewInt(a), big.NewInt(b), new(big.Int)
	switch op {
	case api.OAdd:
		n.Add(x, y)
	case api.OSub:
		n.Sub(x, y)
	case api.OMul:
		n.Mul(x, y)
	case api.ODiv, api.OMod:
		if b == 0 {
			return 0, trapZero
		}
		if op == api.ODiv {
			n.Quo(x, y)
		} else {
			n.Rem(x, y)
		}
	}
	if !n.IsInt64() {
		return 0, trapOver
	}
	return n.Int64(), 0
}

// trapping is how the second way ends by a trap, over how it ends otherwise.
type trapping struct{ trap int }
type over struct {
	how   api.Over
	role  int
	state []api.Value
}

// second is another way to do a turn: a function that is called is a call of Go's; what ends the turn is a panic.
type second struct {
	m        api.Module
	turn     api.Turn
	left     int
	underWay int
	traps    map[string]int // how often each instruction trapped, by its word and the trap
}

// turned is what a turn of that role must come to.
func (s *second) turned(role int, state []api.Value, tag string, args []api.Value, self, next int64) (t api.Turn) {
	s.turn = api.Turn{Self: self, Next: next, Role: role, State: state}
	at := slices.IndexFunc(s.m.Roles[role].On, func(on api.On) bool { return on.Tag == tag && on.Params == len(args) })
	defer func() {
		switch e := recover().(type) {
		case trapping:
			t = api.Turn{Self: self, Next: next, Role: role, State: state, Used: s.turn.Used, Over: api.Trapped, Trap: e.trap}
		case over:
			t = s.turn
			t.Over, t.Role, t.State = e.how, e.role, e.state
		default:
			panic(e)
		}
	}()
	if at < 0 {
		panic(trapping{trapTag})
	}
	s.function(s.m.Roles[role].On[at].Fn, append(slices.Clone(state), args...))
	panic("a body that returns")
}

// function is what a function returns.
func (s *second) function(fn int, args []api.Value) api.Value {
	s.underWay++
	defer func() { s.underWay-- }()
	f := s.m.Fns[fn]
	vars := append(slices.Clone(args), many(f.Vars-len(args), number(0))...)
	var stack []api.Value
	for at := 0; ; {
		if s.left == 0 {
			panic(trapping{trapFuel})
		}
		s.left--
		s.turn.Used++
		i := f.Code[at]
		at++
		if i.Op == api.OReturn {
			if len(stack) == 0 {
				s.trap(i, trapStack)
			}
			return stack[len(stack)-1]
		}
		s.instruction(i, vars, &stack, &at)
		if len(stack) > mostStack {
			s.trap(i, trapStack)
		}
	}
}

func (s *second) trap(i api.Ins, trap int) {
	word, _, _ := strings.Cut(code.Show(i), " ")
	s.traps[fmt.Sprint(word, " ", trap)]++
	panic(trapping{trap})
}

// must traps, unless that holds.
func (s *second) must(fine bool, i api.Ins, trap int) {
	if !fine {
		s.trap(i, trap)
	}
}

// instruction does one that does not return.
func (s *second) instruction(i api.Ins, vars []api.Value, stack *[]api.Value, at *int) {
	pop := func() api.Value {
		s.must(len(*stack) > 0, i, trapStack)
		v := (*stack)[len(*stack)-1]
		*stack = (*stack)[: len(*stack)-1 : len(*stack)-1]
		return v
	}
	pops := func(n int) []api.Value {
		all := make([]api.Value, n)
		for k := range all {
			all[n-1-k] = pop()
		}
		return all
	}
	push := func(v api.Value) { *stack = append(*stack, v) }
	isTrue := func(v api.Value) bool {
		s.must(v.Kind == api.VBool, i, trapType)
		return v.N == 1
	}
	truthOf := func(holds bool) api.Value {
		if holds {
			return truth(1)
		}
		return truth(0)
	}
	switch i.Op {
	case api.OConst:
		push(s.m.Consts[i.A])
	case api.OLoad:
		push(vars[i.A])
	case api.OStore:
		vars[i.A] = pop()
	case api.OPop:
		pop()
	case api.OSelf:
		push(actor(s.turn.Self))
	case api.OTuple:
		push(s.fits(tuple(pops(i.A)...), i))
	case api.OCall:
		args := pops(s.m.Fns[i.A].Params)
		s.must(s.underWay < mostCalls, i, trapDeep)
		push(s.function(i.A, args))
	case api.OSpawn:
		state := pops(s.m.Roles[i.A].Params)
		s.turn.Effects = append(s.turn.Effects, api.Effect{To: s.turn.Next, Role: i.A, Args: state})
		push(actor(s.turn.Next))
		s.turn.Next++
	case api.OSend:
		args, to := pops(i.B), pop()
		s.must(to.Kind == api.VActor, i, trapType)
		s.turn.Effects = append(s.turn.Effects, api.Effect{To: to.N, Role: -1, Tag: s.m.Tags[i.A], Args: args})
	case api.OBecome:
		panic(over{api.Became, i.A, pops(s.m.Roles[i.A].Params)})
	case api.OStop:
		panic(over{api.Stopped, s.turn.Role, s.turn.State})
	case api.OEnd:
		panic(over{api.Ended, s.turn.Role, vars[:len(s.turn.State)]})
	case api.OJump:
		*at = i.A
	case api.OUnless:
		if !isTrue(pop()) {
			*at = i.A
		}
	case api.OAnd, api.OOr:
		if v := pop(); isTrue(v) == (i.Op == api.OOr) {
			push(v)
			*at = i.A
		}
	case api.OTruth:
		push(truthOf(isTrue(pop())))
	case api.ONot:
		push(truthOf(!isTrue(pop())))
	case api.ONeg:
		push(s.numbers(api.Ins{Op: api.OSub}, i, number(0), pop()))
	case api.OLen:
		v := pop()
		s.must(v.Kind == api.VBytes || v.Kind == api.VTuple, i, trapType)
		push(number(int64(len(v.S) + len(v.L))))
	default:
		two := pops(2)
		push(s.ofTwo(i, two[0], two[1], truthOf))
	}
}

// numbers is what becomes of two values by op, which i asks for.
func (s *second) numbers(op, i api.Ins, a, b api.Value) api.Value {
	s.must(a.Kind == api.VInt && b.Kind == api.VInt, i, trapType)
	n, trap := reckoned(op.Op, a.N, b.N)
	s.must(trap == 0, i, trap)
	return number(n)
}

// ofTwo is what an instruction makes of two values.
func (s *second) ofTwo(i api.Ins, a, b api.Value, truthOf func(bool) api.Value) api.Value {
	switch i.Op {
	case api.OEq:
		return truthOf(alikeValue(a, b))
	case api.ONe:
		return truthOf(!alikeValue(a, b))
	case api.OLt:
		return truthOf(s.order(i, a, b) < 0)
	case api.OLe:
		return truthOf(s.order(i, a, b) <= 0)
	case api.OGt:
		return truthOf(s.order(i, a, b) > 0)
	case api.OGe:
		return truthOf(s.order(i, a, b) >= 0)
	case api.OCat:
		s.must(a.Kind == b.Kind && (a.Kind == api.VBytes || a.Kind == api.VTuple), i, trapType)
		return s.fits(api.Value{Kind: a.Kind, S: a.S + b.S, L: append(slices.Clone(a.L), b.L...)}, i)
	case api.OAt:
		s.must((a.Kind == api.VBytes || a.Kind == api.VTuple) && b.Kind == api.VInt, i, trapType)
		s.must(b.N >= 0 && b.N < int64(len(a.S)+len(a.L)), i, trapRange)
		if a.Kind == api.VBytes {
			return number(int64(a.S[b.N]))
		}
		return a.L[b.N]
	}
	return s.numbers(i, i, a, b)
}

// order is below 0, 0 or above, as a is below b, the same, above.
func (s *second) order(i api.Ins, a, b api.Value) int {
	s.must(a.Kind == b.Kind && (a.Kind == api.VBytes || a.Kind == api.VInt), i, trapType)
	if a.Kind == api.VBytes {
		return bytes.Compare([]byte(a.S), []byte(b.S))
	}
	return big.NewInt(a.N).Cmp(big.NewInt(b.N))
}

// fits is v, unless it has too many bytes, pieces or levels.
func (s *second) fits(v api.Value, i api.Ins) api.Value {
	pieces, levels := 0, 0
	var look func(v api.Value, level int)
	look = func(v api.Value, level int) {
		pieces++
		levels = max(levels, level)
		for _, part := range v.L {
			look(part, level+1)
		}
	}
	look(v, 1)
	s.must(len(v.S) <= mostBytes && pieces <= 256 && levels <= 16, i, trapLong)
	return v
}

// maker makes modules by chance.
type maker struct {
	*rand.Rand
	m      api.Module
	bodies int // from this function on they are bodies
}

// value is a right one by chance, often of that kind.
func (r *maker) value(kind api.Kind, levels int) api.Value {
	for {
		if v := r.anyValue(kind, levels); value.Right(v) {
			return v
		}
	}
}

// anyValue is one by chance, of which there may be too much.
func (r *maker) anyValue(kind api.Kind, levels int) api.Value {
	if r.IntN(8) == 0 || kind == 0 {
		kind = api.Kind(1 + r.IntN(5))
	}
	switch kind {
	case api.VInt:
		if r.IntN(6) == 0 {
			return number([]int64{math.MinInt64, math.MaxInt64, -1, 1 << 32, 1 << 62}[r.IntN(5)])
		}
		return number(r.Int64N(7) - 2)
	case api.VBool:
		return truth(r.Int64N(2))
	case api.VBytes:
		return text(strings.Repeat([]string{"", "a", "b", "ab", strings.Repeat("x", 1365)}[r.IntN(5)], 1+r.IntN(3)))
	case api.VActor:
		return actor(r.Int64N(60))
	}
	v := tuple()
	if levels > 0 {
		for range []int{0, 1, 1, 2, 3, 120}[r.IntN(6)] {
			v.L = append(v.L, r.anyValue(0, levels/2-1))
		}
	}
	return v
}

// params is how many, in sum with others at most so many.
func (r *maker) params(most int) int { return min(most, []int{0, 0, 1, 1, 2, 3}[r.IntN(6)]) }

// module makes one that is right.
func (r *maker) module() api.Module {
	r.m = api.Module{Tags: []string{"a", "b", "c"}}
	for kind := range api.Kind(12) {
		r.m.Consts = append(r.m.Consts, r.value(kind%5+1, 4))
	}
	r.m.Consts = append(r.m.Consts, tuple(many(120, number(1))...), deep(13, number(1)))
	r.bodies = 1 + r.IntN(3)
	for range r.bodies {
		params := r.params(3)
		r.m.Fns = append(r.m.Fns, api.Fn{Params: params, Vars: params + r.IntN(3)})
	}
	for range 1 + r.IntN(3) {
		part := api.Part{Params: r.params(3)}
		for k := range 1 + r.IntN(2) {
			params := r.params(3)
			part.On = append(part.On, api.On{Tag: r.m.Tags[k], Params: params, Fn: len(r.m.Fns)})
			r.m.Fns = append(r.m.Fns, api.Fn{Params: part.Params + params, Vars: part.Params + params + r.IntN(3)})
		}
		r.m.Roles = append(r.m.Roles, part)
	}
	for i := range r.m.Fns {
		r.m.Fns[i].Code = r.code(i)
	}
	return r.m
}

// code is a function's, in which kinds are mostly such as are asked for.
func (r *maker) code(fn int) []api.Ins {
	all := make([]api.Ins, 2+r.IntN(30))
	stack := []api.Kind{}
	for i := range all[1:] {
		all[i] = r.ins(fn, len(all), i, stack)
		stack = r.behind(fn, all[i], stack)
	}
	lasts := []api.Op{api.OReturn, api.OReturn, api.OJump}
	if fn >= r.bodies {
		lasts = []api.Op{api.OEnd, api.OStop, api.OBecome, api.OJump}
	}
	last := api.Ins{Op: lasts[r.IntN(len(lasts))]}
	switch last.Op {
	case api.OJump:
		last.A = r.IntN(len(all))
	case api.OBecome:
		last.A = r.IntN(len(r.m.Roles))
	case api.OReturn:
		all[len(all)-2] = api.Ins{Op: api.OConst, A: r.IntN(len(r.m.Consts))}
	}
	all[len(all)-1] = last
	return all
}

// asked is the kinds that an Op is mostly of, the lowest one first (0: any).
var asked = map[api.Op][]api.Kind{
	api.OStore: {0}, api.OPop: {0}, api.OAdd: {1, 1}, api.OSub: {1, 1}, api.OMul: {1, 1}, api.ODiv: {1, 1}, api.OMod: {1, 1}, api.ONeg: {1}, api.ONot: {2}, api.OTruth: {2}, api.OEq: {0, 0}, api.ONe: {0, 0},
	api.OLt: {1, 1}, api.OLe: {3, 3}, api.OGt: {3, 3}, api.OGe: {1, 1}, api.OCat: {4, 4}, api.OAt: {4, 1}, api.OLen: {4}, api.OUnless: {2}, api.OAnd: {2}, api.OOr: {2}, api.OReturn: {0}, api.OSend: {5},
}

// ins is an instruction at that place, for which the stack is mostly fit.
func (r *maker) ins(fn, long, at int, stack []api.Kind) api.Ins {
	for {
		i := api.Ins{Op: api.Op(1 + r.IntN(34))}
		if r.IntN(3) == 0 {
			i.Op = []api.Op{api.OConst, api.OLoad}[r.IntN(2)]
		}
		switch i.Op {
		case api.OConst:
			i.A = r.IntN(len(r.m.Consts))
		case api.OLoad, api.OStore:
			if r.m.Fns[fn].Vars == 0 {
				continue
			}
			i.A = r.IntN(r.m.Fns[fn].Vars)
		case api.OTuple:
			i.A = r.IntN(4)
		case api.OCall:
			i.A = r.IntN(r.bodies)
		case api.OSpawn, api.OBecome:
			i.A = r.IntN(len(r.m.Roles))
		case api.OSend:
			i.A, i.B = r.IntN(3), r.IntN(3)
		case api.OJump, api.OUnless, api.OAnd, api.OOr:
			i.A = r.IntN(long)
			if at+1 < long && r.IntN(2) == 0 {
				i.A = at + 1 + r.IntN(long-at-1)
			}
		}
		ends := i.Op == api.OEnd || i.Op == api.OStop || i.Op == api.OBecome
		if ends && fn < r.bodies || i.Op == api.OReturn && fn >= r.bodies || (ends || i.Op == api.OReturn) && r.IntN(4) > 0 {
			continue
		}
		if r.IntN(20) == 0 || r.fit(i, stack) {
			return i
		}
	}
}

// fit tells whether a stack of these kinds (0: who knows) is fit for an instruction.
func (r *maker) fit(i api.Ins, stack []api.Kind) bool {
	kinds := asked[i.Op]
	if i.Op == api.OCat && len(stack) > 0 && stack[len(stack)-1] == api.VBytes {
		kinds = []api.Kind{api.VBytes, api.VBytes}
	}
	takes := r.takes(i)
	if len(stack) < takes {
		return false
	}
	for k, kind := range kinds {
		if s := stack[len(stack)-takes+k]; kind != 0 && s != 0 && s != kind {
			return false
		}
	}
	return true
}

func (r *maker) takes(i api.Ins) int {
	switch i.Op {
	case api.OTuple:
		return i.A
	case api.OCall:
		return r.m.Fns[i.A].Params
	case api.OSpawn, api.OBecome:
		return r.m.Roles[i.A].Params
	case api.OSend:
		return i.B + 1
	}
	return len(asked[i.Op])
}

// behind is what is known of the stack's kinds behind an instruction that does not jump.
func (r *maker) behind(fn int, i api.Ins, stack []api.Kind) []api.Kind {
	stack = slices.Clone(stack[:max(0, len(stack)-r.takes(i))])
	switch i.Op {
	case api.OConst:
		return append(stack, r.m.Consts[i.A].Kind)
	case api.OAdd, api.OSub, api.OMul, api.ODiv, api.OMod, api.ONeg, api.OLen:
		return append(stack, api.VInt)
	case api.OEq, api.ONe, api.OLt, api.OLe, api.OGt, api.OGe, api.ONot, api.OTruth:
		return append(stack, api.VBool)
	case api.OSelf, api.OSpawn:
		return append(stack, api.VActor)
	case api.OTuple:
		return append(stack, api.VTuple)
	case api.OLoad, api.OCall, api.OCat, api.OAt:
		return append(stack, 0)
	}
	return stack
}

// values is so many, often of the kinds that are reckoned with.
func (r *maker) values(n int) []api.Value {
	all := make([]api.Value, n)
	for i := range all {
		all[i] = r.value(api.Kind(1+r.IntN(5)), 3)
	}
	return all
}

// eachTurn does that with turns by chance, and answers how often each instruction trapped.
func eachTurn(t *testing.T, seed uint64, modules int, do func(r *maker, m api.Module, begin, want api.Turn)) map[string]int {
	t.Helper()
	traps := map[string]int{}
	r := &maker{Rand: rand.New(rand.NewPCG(12, seed))}
	for range modules {
		m := r.module()
		if e := code.Check(m); e != api.OK {
			t.Fatalf("%d: %v", e, m)
		}
		for range 8 {
			role := r.IntN(len(m.Roles))
			on := m.Roles[role].On[r.IntN(len(m.Roles[role].On))]
			if r.IntN(30) == 0 {
				on.Params++
			}
			state, args := r.values(m.Roles[role].Params), r.values(on.Params)
			x, e := base.Begin(m, role, state, on.Tag, args, 7, 50)
			if e != api.OK {
				t.Fatal(e, m)
			}
			s := &second{m: m, left: 400, traps: traps}
			do(r, m, x, s.turned(role, state, on.Tag, args, 7, 50))
		}
	}
	return traps
}

// P12.2: turns by chance, against the second way.
func TestByChance(t *testing.T) {
	ends := map[string]int{}
	traps := eachTurn(t, 1, 8000, func(_ *maker, m api.Module, x, want api.Turn) {
		if got := base.Run(m, x, 400); !alike(got, want) {
			t.Fatalf("%s\nwant\n%s\nof %v\n%s", told(got), told(want), m, told(x))
		}
		ends[fmt.Sprint(want.Over, want.Trap, want.Next-50)]++
	})
	for _, end := range []string{"1 0 0", "2 0 0", "3 0 0", "1 0 2", "2 0 1", "3 0 2", "4 1 0", "4 2 0", "4 3 0", "4 4 0", "4 5 0", "4 6 0", "4 7 0", "4 8 0", "4 9 0"} {
		if ends[end] < 20 {
			t.Errorf("%s came only %d times", end, ends[end])
		}
	}
	for _, trap := range []string{
		"add 1", "add 4", "sub 1", "mul 1", "mul 4", "neg 1", "neg 4", "div 1", "div 3", "mod 1", "mod 3", "not 1", "truth 1", "lt 1", "le 1", "gt 1", "ge 1", "cat 1", "cat 5", "at 1", "at 2", "len 1", "tuple 5", "tuple 9",
		"call 6", "call 9", "spawn 9", "send 1", "send 9", "become 9", "unless 1", "unless 9", "and 1", "or 1", "store 9", "pop 9", "eq 9", "return 9", "load 9", "const 9",
	} {
		if traps[trap] < 3 {
			t.Errorf("the trap %s came only %d times", trap, traps[trap])
		}
	}
}

// P12.4: what was begun is right, step by step, and comes to the same by steps, by runs, and by both.
func TestStepByStep(t *testing.T) {
	eachTurn(t, 2, 1000, func(r *maker, m api.Module, begin, _ api.Turn) {
		x, cut, all := begin, r.IntN(20), base.Run(m, begin, 60)
		for n := 0; n < 60 && x.Over == api.Going; n++ {
			if !base.Right(m, x) {
				t.Fatalf("not right: %s of %v", told(x), m)
			}
			if n == cut {
				if got := base.Run(m, x, 60-n); !alike(got, all) {
					t.Fatalf("%s\nbehind %d steps; want\n%s\nof %v", told(got), n, told(all), m)
				}
			}
			x = base.Step(m, x)
			if x.Used != n+1 {
				t.Fatalf("%d steps: %s", n+1, told(x))
			}
		}
		if x.Over == api.Going {
			x = base.Run(m, x, 0)
		}
		if !alike(x, all) || !base.Right(m, x) {
			t.Fatalf("%s\nwant\n%s\nof %v", told(x), told(all), m)
		}
	})
}

// P12.4: with as many steps as it used a turn ends in the same way; with fewer it has TrapFuel.
func TestFewerSteps(t *testing.T) {
	eachTurn(t, 3, 1000, func(r *maker, m api.Module, x, want api.Turn) {
		if want.Trap == trapFuel {
			return
		}
		for _, more := range []int{0, 1, 1 << 40} {
			if got := base.Run(m, x, want.Used+more); !alike(got, want) {
				t.Fatalf("%s\nwant\n%s\nof %v", told(got), told(want), m)
			}
		}
		for _, steps := range []int{want.Used - 1, want.Used / 2, 0} {
			if steps < 0 || steps >= want.Used {
				continue
			}
			fuel := api.Turn{Self: 7, Next: 50, Used: steps, Over: api.Trapped, Trap: trapFuel, Role: x.Role, State: x.State}
			if got := base.Run(m, x, steps); !alike(got, fuel) {
				t.Fatalf("%s\nwant\n%s\nof %v", told(got), told(fuel), m)
			}
		}
	})
}

// P12.2, P12.3: a turn that is spoilt by chance is right, and is done, or stays as it is: no call panics.
func TestSpoilt(t *testing.T) {
	rights := map[bool]int{}
	eachTurn(t, 4, 1500, func(r *maker, m api.Module, x, _ api.Turn) {
		for range r.IntN(8) {
			if x.Over == api.Going {
				x = base.Step(m, x)
			}
		}
		if x.Over != api.Going {
			return
		}
		f := &x.Frames[r.IntN(len(x.Frames))]
		near := func(n *int) { *n = []int{*n - 1, *n + 1, -1, 0, 1, r.IntN(40), 1 << 40, math.MinInt}[r.IntN(8)] }
		switch r.IntN(8) {
		case 0:
			near(&f.Fn)
		case 1:
			near(&f.At)
		case 2:
			near(&x.Role)
		case 3:
			f.Vars = r.values(r.IntN(6))
		case 4:
			f.Stack = many([]int{0, 1, mostStack, mostStack + 1}[r.IntN(4)], r.value(0, 3))
		case 5:
			x.State = r.values(r.IntN(4))
		case 6:
			f.Stack = append(f.Stack, wrongs()[r.IntN(len(wrongs()))])
		case 7:
			x.Frames = append(x.Frames, *f)
		}
		right, ahead := base.Right(m, x), kept(x)
		rights[right]++
		got, one := base.Run(m, x, 300), base.Step(m, x)
		if !right && !(alike(got, ahead) && alike(one, ahead)) || right && (got.Over == api.Going || one.Used != x.Used+1) || !alike(x, ahead) {
			t.Fatalf("right %v: %s\nRun %s\nStep %s\nof %v", right, told(ahead), told(got), told(one), m)
		}
	})
	if rights[true] < 1000 || rights[false] < 1000 {
		t.Error(rights)
	}
}
