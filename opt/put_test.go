package opt_test

import (
	"fmt"
	"slices"
	"strings"
	"testing"

	"drover/api"
	"drover/base"
	"drover/code"
	"drover/ir"
	"drover/profile"
)

// P15.2: calls that are put in: whatever they are handed, and hand back, by whatever they leave.
func TestPutIn(t *testing.T) {
	for _, c := range []struct {
		body string
		fns  []api.Fn
	}{
		{"load 3; call 1; store 1; end", []api.Fn{fn(1, 1, "load 0; const 1; add; return; const 0; return")}},
		{"load 3; load 4; call 1; store 1; end", []api.Fn{fn(2, 2, "load 0; return")}},
		{"load 3; load 4; call 1; store 1; end", []api.Fn{fn(2, 2, "load 1; return")}},
		{"load 3; load 4; const 1; add; call 1; store 1; end", []api.Fn{fn(2, 2, "load 1; return")}},
		{"load 4; load 3; const 1; add; load 4; const 1; sub; call 1; eq; store 1; end", []api.Fn{fn(2, 2, "load 1; return")}},
		{"load 4; load 3; const 1; add; load 4; const 1; sub; call 1; eq; store 1; end", []api.Fn{fn(2, 2, "load 0; return")}},
		{"load 3; load 4; call 1; store 1; end", []api.Fn{fn(2, 2, "load 0; load 1; sub; return")}},
		{"load 4; load 3; call 1; store 1; end", []api.Fn{fn(2, 2, "load 0; load 1; sub; return")}},
		{"call 1; store 1; end", []api.Fn{fn(0, 0, "const 5; return")}},
		{"call 1; load 3; eq; store 1; end", []api.Fn{fn(0, 2, "load 1; return")}},
		{"load 4; load 3; call 1; pop; store 1; end", []api.Fn{fn(1, 3, "load 0; store 2; load 1; store 0; load 2; load 0; add; return")}},
		{"load 4; call 1; store 1; load 3; call 1; store 0; end", []api.Fn{fn(1, 3, "load 0; store 2; const 1; store 1; load 2; load 1; add; store 2; load 2; return")}},
		{"load 3; call 1; store 3; load 3; store 1; end", []api.Fn{fn(1, 1, "load 0; const 1; add; store 0; load 0; const 1; add; store 0; load 0; return")}},
		{"load 3; call 1; load 4; call 1; sub; store 1; end", []api.Fn{fn(1, 2, "load 0; const 1; add; store 1; load 1; return")}},
		{"load 3; call 1; load 4; store 3; store 1; end", []api.Fn{fn(1, 1, "load 0; return")}},
		{"load 3; call 1; store 3; end", []api.Fn{fn(1, 1, "load 0; return")}},
		{"load 3; load 4; call 1; load 4; store 3; load 3; tuple 2; store 1; end", []api.Fn{fn(2, 2, "load 0; load 0; load 1; store 0; eq; pop; load 0; return")}},
		{"load 3; load 4; call 1; store 1; end", []api.Fn{fn(2, 3, "load 0; load 1; store 0; store 1; load 0; store 2; load 1; store 0; load 2; load 0; tuple 2; return")}},
		{"load 3; load 4; call 1; store 1; end", []api.Fn{fn(2, 4, "load 0; load 1; mul; store 2; load 2; load 2; load 1; store 2; load 2; tuple 3; store 3; load 3; return")}},
		{"load 3; load 4; call 1; store 1; end", []api.Fn{fn(2, 4, "load 0; store 2; const 5; store 0; load 2; load 0; tuple 2; return")}},
		{"load 3; load 4; call 1; store 1; end", []api.Fn{fn(2, 2, "load 0; load 1; send 1 1; load 1; not; return")}},
		{"load 4; load 4; load 3; call 1; send 0 1; end", []api.Fn{fn(1, 1, "self; load 0; load 0; tuple 2; send 1 1; load 0; truth; return")}},
		{"load 3; load 4; call 1; store 1; end", []api.Fn{fn(2, 2, "load 0; load 1; load 0; return")}},
		{"load 3; load 4; call 1; store 1; end", []api.Fn{fn(2, 2, "const 1; const 2; load 0; load 1; lt; return")}},
		{"self; load 4; call 1; store 1; end", []api.Fn{fn(2, 2, "load 1; truth; pop; load 0; return")}},
		{"x: load 3; load 4; lt; unless y; load 3; call 1; store 3; jump x; y: load 3; store 1; end", []api.Fn{fn(1, 1, "load 0; const 1; add; return")}},
		{"load 3; or x; load 4; call 1; truth; x: unless y; load 3; call 1; store 1; y: end", []api.Fn{fn(1, 1, "load 0; not; return")}},
		{"load 3; unless x; load 4; call 1; pop; x: load 4; store 1; end", []api.Fn{fn(1, 1, "load 0; return")}},
		{"load 3; unless x; load 4; call 1; store 4; x: load 4; store 1; end", []api.Fn{fn(1, 1, "load 0; load 0; add; return")}},
		{"load 3; x: call 1; load 3; load 4; store 3; unless x; store 1; end", []api.Fn{fn(1, 1, "load 0; const 1; add; return")}},
		{"load 3; load 4; x: call 1; load 4; load 3; load 3; not; store 3; unless x; pop; store 1; end", []api.Fn{fn(2, 2, "load 1; return")}},
		{"load 3; load 4; call 1; store 1; end", []api.Fn{fn(2, 4, "load 0; load 1; add; store 2; load 2; store 3; const 5; store 2; load 3; load 2; tuple 2; return")}},
		{"load 3; load 4; call 1; store 1; end", []api.Fn{fn(2, 4, "load 0; load 1; add; store 2; load 2; load 2; store 3; load 0; store 2; load 3; tuple 2; return")}},
		{"load 3; load 4; call 1; store 1; end", []api.Fn{fn(2, 4, "load 0; load 1; add; store 2; load 0; store 2; load 2; load 1; store 2; load 2; sub; return")}},
		// Calls within calls.
		{"load 3; load 4; call 1; store 1; end", []api.Fn{fn(2, 2, "load 1; load 0; call 3; load 0; call 3; return"), fn(2, 2, "load 0; load 1; sub; return")}},
		{"load 4; load 3; load 4; call 1; tuple 2; store 1; end", []api.Fn{fn(2, 3, "load 1; load 0; load 1; call 3; store 2; load 2; load 0; tuple 3; return"), fn(2, 3, "load 0; load 1; store 0; load 0; store 2; load 2; mul; return")}},
		{"load 3; load 4; call 1; store 1; end", []api.Fn{fn(2, 2, "load 0; load 0; load 1; call 3; store 0; load 0; eq; return"), fn(2, 2, "load 1; return")}},
		{"load 3; load 4; call 1; store 1; end", []api.Fn{fn(2, 2, "load 0; load 1; call 3; return"), fn(2, 2, "load 0; load 1; add; return")}},
		{"load 3; load 4; call 1; store 1; end", []api.Fn{fn(2, 2, "const 5; load 0; call 3; load 1; call 3; tuple 2; eq; return"), fn(1, 2, "load 0; not; store 1; load 1; return")}},
		{"load 3; load 4; call 1; store 1; load 3; call 3; store 0; end", []api.Fn{fn(2, 2, "load 0; call 3; load 1; call 3; add; return"), fn(1, 2, "load 0; load 1; sub; return")}},
		{"load 3; load 4; call 1; store 1; end", []api.Fn{fn(2, 2, "call 3; load 0; load 1; send 0 1; return"), fn(0, 3, "load 2; return")}},
	} {
		m := handler(t, c.body, c.fns...)
		what := fmt.Sprint(c)
		f := wantCode(t, what, m, 0, seen(m, ints, ints))
		if outs(f) > 0 || len(f.Needs) != len(c.fns) {
			t.Error(what, shown(f))
		}
		wantHandled(t, what, m, f, 7)
		wantHandled(t, what, m, f, -7)
		// The code rests on each of them.
		for at := range m.Fns {
			other := m
			other.Fns = slices.Clone(m.Fns)
			other.Fns[at].Code = append(slices.Clone(other.Fns[at].Code), other.Fns[at].Code[len(other.Fns[at].Code)-1])
			if needed := at == 1 || at >= 3; ir.Holds(other, f) == needed {
				t.Error(what, "without", at, ir.Holds(other, f))
			}
		}
	}
}

// P15.2: calls that are left to the interpreter, or not: the code does what the body does.
func TestNotPutIn(t *testing.T) {
	straight := func(n int) string {
		return "load 0; " + strings.Repeat("const 1; pop; ", (n-2)/2) + strings.Repeat("const 1; ", n%2) + "return"
	}
	for _, c := range []struct {
		body string
		out  bool
		fns  []api.Fn
	}{
		{"load 3; call 1; store 1; end", true, []api.Fn{fn(1, 1, "load 0; unless x; const 1; return; x: const 0; return")}},
		{"load 3; call 1; store 1; end", true, []api.Fn{fn(1, 1, "load 0; and x; load 0; truth; x: return")}},
		{"load 3; call 1; store 1; end", true, []api.Fn{fn(1, 1, "load 0; or x; load 0; truth; x: return")}},
		{"load 3; call 1; store 1; end", true, []api.Fn{fn(1, 1, "x: jump x")}},
		{"load 3; call 1; store 1; end", true, []api.Fn{fn(1, 1, "load 0; x: const 1; add; jump x")}},
		{"load 3; call 1; store 1; end", true, []api.Fn{fn(1, 1, "load 0; neg; return")}},
		{"load 3; call 1; store 1; end", true, []api.Fn{fn(1, 1, "load 0; len; return")}},
		{"load 3; call 1; store 1; end", true, []api.Fn{fn(1, 1, "load 0; load 0; load 0; spawn 0; return")}},
		{"load 3; call 1; store 1; end", true, []api.Fn{fn(1, 1, "return")}},
		{"load 3; call 1; store 1; end", true, []api.Fn{fn(1, 1, "pop; load 0; return")}},
		{"load 3; call 1; store 1; end", true, []api.Fn{fn(1, 1, "load 0; pop; return")}},
		{"load 3; call 1; store 1; end", true, []api.Fn{fn(1, 1, "load 0; add; return")}},
		{"load 3; call 1; store 1; end", true, []api.Fn{fn(1, 1, "load 0; call 1; return")}},
		{"load 3; call 1; store 1; end", true, []api.Fn{fn(1, 1, "load 0; call 3; return"), fn(1, 1, "load 0; call 1; return")}},
		{"load 3; call 1; store 1; end", true, []api.Fn{fn(1, 1, "load 0; call 3; return"), fn(1, 1, "load 0; len; return")}},
		{"load 3; call 1; store 1; end", true, []api.Fn{fn(1, 1, "call 3; return"), fn(1, 1, "load 0; return")}},
		{"load 3; call 1; store 1; end", false, []api.Fn{fn(1, 1, "load 0; call 3; return"), fn(1, 1, "load 0; load 0; add; return")}},
		{"load 3; call 1; store 1; end", true, []api.Fn{fn(1, 1, "load 0; call 3; return"), fn(1, 1, "load 0; call 4; return"), fn(1, 1, "load 0; load 0; add; return")}},
		{"load 3; call 1; store 1; load 4; call 3; store 0; end", true, []api.Fn{fn(1, 1, "load 0; call 3; return"), fn(1, 1, "load 0; call 4; return"), fn(1, 1, "load 0; load 0; add; return")}},
		{"load 3; call 1; store 1; end", false, []api.Fn{fn(1, 1, straight(mostPutCode-1))}},
		{"load 3; call 1; store 1; end", false, []api.Fn{fn(1, 1, straight(mostPutCode))}},
		{"load 3; call 1; store 1; end", true, []api.Fn{fn(1, 1, straight(mostPutCode+1))}},
		{"load 3; call 1; store 1; end", true, []api.Fn{fn(1, 1, "load 0; return; "+straight(mostPutCode-1))}},
	} {
		m := handler(t, c.body, c.fns...)
		what := fmt.Sprint(c)
		f := wantCode(t, what, m, 0, seen(m, ints, ints))
		if outs(f) > 0 != c.out {
			t.Error(what, shown(f))
		}
		for _, a := range operands() {
			x := begun(t, m, 0, 0, 7, number(30), text("state"), truth(true), a, number(4))
			last := base.Run(m, x, 300)
			for _, steps := range []int{300, last.Used, last.Used - 1, last.Used / 2, 1, 0} {
				wantSame(t, what, m, f, x, steps)
			}
		}
	}
	// What is behind a return is never done: the code does not rest on what is called there.
	m := handler(t, "load 3; call 1; store 1; end", fn(1, 1, "load 0; return; load 0; call 3; return"), fn(1, 1, "load 0; return"))
	if f := wantCode(t, "behind a return", m, 0, seen(m, ints, ints)); len(f.Needs) != 1 || f.Needs[0].Fn != 1 {
		t.Error(shown(f))
	}
	// What a function's numbers are is told by its own profile, not by the body's.
	m = handler(t, "load 3; load 4; add; call 1; store 1; end", fn(1, 1, "load 0; const 1; add; return"))
	for _, c := range []struct{ body, fn, outs int }{{1, 1, 0}, {0, 1, 1}, {1, 0, 1}, {0, 0, 1}} {
		p := profile.Empty(m)
		if c.body == 1 {
			p.Fns[0] = seen(m, ints, ints).Fns[0]
		}
		if c.fn == 1 {
			p.Fns[1] = seen(m, ints, ints).Fns[1]
		}
		f := wantCode(t, fmt.Sprint(c), m, 0, p)
		if outs(f) != c.outs {
			t.Error(c, shown(f))
		}
		wantHandled(t, fmt.Sprint(c), m, f, 7)
	}
}

// greatModule is one whose body has so many calls, each of a function of its own, or all of one; these have so many instructions (sums, or calls of others that have sums).
func greatModule(calls, size int, deep, same bool) api.Module {
	m := api.Module{Consts: list(number(1)), Tags: []string{"a"}, Roles: []api.Part{{Params: 1, On: []api.On{{Tag: "a", Fn: 0}}}}}
	m.Fns = []api.Fn{{Params: 1, Vars: 1}}
	for k := range calls {
		at := 1 + k
		if same {
			at = 1
		}
		m.Fns[0].Code = append(m.Fns[0].Code, ins(api.OCall, at), ins(api.OPop))
	}
	m.Fns[0].Code = append(m.Fns[0].Code, ins(api.OEnd))
	back := []api.Ins{ins(api.OLoad, 0), ins(api.OReturn)}
	sums := append(times((size-2)/4, ins(api.OLoad, 0), ins(api.OConst), ins(api.OAdd), ins(api.OStore, 0)), back...)
	for k := range calls {
		f := api.Fn{Vars: 1, Code: sums}
		if deep {
			f.Code = append(times((size-2)/2, ins(api.OCall, calls+1+k%7), ins(api.OPop)), back...)
		}
		m.Fns = append(m.Fns, f)
	}
	for range 7 {
		m.Fns = append(m.Fns, api.Fn{Vars: 1, Code: sums})
	}
	return m
}

// P15.2: bodies with as many calls as can be, of functions as long as they are put in: their code may be, and does what they do.
func TestGreatCalls(t *testing.T) {
	for _, calls := range []int{1, 5, 16, 99, 100, 101, 149} {
		for _, size := range []int{2, 6, 22, mostPutCode - 2, mostPutCode + 2} {
			for kind := range 4 {
				m := greatModule(calls, size, kind&1 == 1, kind&2 == 2)
				what := fmt.Sprint(calls, " calls of ", size, " kind ", kind)
				if code.Check(m) != api.OK {
					t.Fatal(what)
				}
				f := wantCode(t, what, m, 0, seen(m, ints, ints))
				if tooMany := calls > mostNeeds && kind&2 == 0; calls*size <= 400 && kind&1 == 0 && size <= mostPutCode && outs(f) > 0 != tooMany {
					t.Error(what, "put in:", outs(f) == 0)
				}
				x := begun(t, m, 0, 0, 7, number(1))
				last := wantSame(t, what, m, f, x, 3000)
				for _, steps := range []int{last.turn.Used, last.turn.Used - 1, last.turn.Used / 2, 100} {
					wantSame(t, what, m, f, x, steps)
				}
			}
		}
	}
}

// P15.2: plain bodies as long as they may be, of what takes most steps, ways back and registers: no FOut.
func TestGreatPlain(t *testing.T) {
	deep := strings.Repeat("load 0; ", 72)
	for what, row := range map[string]string{
		"ors":    "const 3; or x; const 4; x: store 0",
		"ands":   "load 1; and x; const 3; x: unless y; y: self; pop",
		"tuples": "load 0; load 1; load 0; tuple 2; pop; pop",
		"selfs":  "self; self; eq; pop",
		"sends":  "self; load 1; load 0; send 0 2",
		"stores": "load 0; load 1; store 0; store 1",
		"sums":   "const 0; const 1; add; store 0",
		"loads":  deep + "const 1; store 0; " + strings.Repeat("pop; ", 71) + "pop",
		"wide":   deep + deep + "tuple 140; pop; pop; pop; pop; pop",
		"joins":  "load 1; unless x; x: const 0; const 1; lt; pop",
	} {
		var all []api.Ins
		for one := laid(row); len(all)+len(one) < mostBody; {
			for _, i := range one {
				if i.Op == api.OOr || i.Op == api.OAnd || i.Op == api.OUnless {
					i.A += len(all) - len(all)%len(one)
				}
				all = append(all, i)
			}
		}
		m := module(mostVars, append(all, ins(api.OEnd))...)
		if code.Check(m) != api.OK {
			t.Fatal(what)
		}
		m.Fns[0].Params, m.Roles[0].Params, m.Roles[0].On[0].Params = 2, 1, 1
		f := wantCode(t, what, m, 0, seen(m, ints, ints))
		if outs(f) > 0 {
			t.Error(what, shown(f))
		}
		for _, self := range []int64{7, -7} {
			x := begun(t, m, 0, 0, self, number(1), truth(true))
			if last := wantSame(t, what, m, f, x, 3000); self == 7 && (last.turn.Over != api.Ended || last.left) {
				t.Error(what, told(last.turn))
			}
			for steps := 0; steps < 310; steps += 9 {
				wantSame(t, what, m, f, x, steps)
			}
		}
	}
}
