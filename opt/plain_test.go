package opt_test

import (
	"math"
	"strconv"
	"strings"
	"testing"

	"drover/api"
	"drover/code"
	"drover/opt"
	"drover/profile"
)

// laid is code as a text tells it: instructions with ; between, words as code.Show has them, a name with a : ahead of an instruction that a jump leads to by that name.
func laid(text string) []api.Ins {
	ops := map[string]api.Op{}
	for op := api.OConst; op <= api.OEnd; op++ {
		word, _, _ := strings.Cut(code.Show(ins(op)), " ")
		ops[word] = op
	}
	places := map[string]int{}
	lines := strings.Split(text, ";")
	for at, line := range lines {
		if name, rest, ok := strings.Cut(line, ":"); ok {
			places[strings.TrimSpace(name)], lines[at] = at, rest
		}
	}
	var all []api.Ins
	for _, line := range lines {
		words := strings.Fields(line)
		i := ins(ops[words[0]])
		for k, word := range words[1:] {
			n, e := strconv.Atoi(word)
			if e != nil {
				n = places[word]
			}
			if k == 0 {
				i.A = n
			} else {
				i.B = n
			}
		}
		all = append(all, i)
	}
	return all
}

// operands are values of each kind, and the numbers at which something ends.
func operands() []api.Value {
	all := list(truth(false), truth(true), text(""), text("ab"), tuple(), tuple(number(1)), actor(0), actor(9))
	for _, n := range []int64{0, 1, -1, 2, -7, math.MaxInt64, math.MinInt64} {
		all = append(all, number(n))
	}
	return all
}

// fn is a function: how many values, how many variables, and the code.
func fn(params, vars int, text string) api.Fn {
	return api.Fn{Params: params, Vars: vars, Code: laid(text)}
}

// handler is module, but with a role of three values, whose body of two values (the variables 3 and 4, beside two more) has that code; instead of the function 1, and behind all others from 3 on, there may be others.
func handler(t *testing.T, body string, fns ...api.Fn) api.Module {
	t.Helper()
	m := module(7, laid(body)...)
	m.Fns[0].Params = 5
	m.Roles[0] = api.Part{Params: 3, On: []api.On{{Tag: "a", Params: 2, Fn: 0}}}
	for k, f := range fns {
		if k == 0 {
			m.Fns[1] = f
		} else {
			m.Fns = append(m.Fns, f)
		}
	}
	if code.Check(m) != api.OK || opt.Depths(m, 0) == nil {
		t.Fatal("not right, or not shaped:", body, fns)
	}
	return m
}

// wantHandled wants that f does what the body of handler's module does of all pairs of operands, each of them also with too few steps.
func wantHandled(t *testing.T, what string, m api.Module, f api.Fast, self int64) {
	t.Helper()
	for i, a := range operands() {
		for j, b := range operands() {
			x := begun(t, m, 0, 0, self, number(30), text("state"), truth(true), a, b)
			last := wantSame(t, what, m, f, x, 40)
			wantSame(t, what, m, f, x, (i*7+j)%(last.turn.Used+1))
		}
	}
}

// wantPlain wants that a body's code has no FOut, and does what the body does of values of all kinds.
func wantPlain(t *testing.T, body string) {
	t.Helper()
	m := handler(t, body)
	f := wantCode(t, body, m, 0, seen(m, ints, ints))
	if outs(f) > 0 || !isPlain(m, 0, opt.Depths(m, 0), seen(m, ints, ints)) {
		t.Error(body, shown(f))
	}
	wantHandled(t, body, m, f, 7)
}

// P15.2: plain bodies of each instruction.
func TestPlainOps(t *testing.T) {
	for _, body := range []string{
		"end",
		"const 2; store 1; end",
		"load 3; store 1; load 4; store 0; end",
		"self; store 1; end",
		"load 3; load 4; pop; store 1; end",
		"load 3; load 4; eq; store 1; end",
		"load 3; load 4; ne; store 1; end",
		"load 3; load 4; add; store 1; end",
		"load 3; load 4; sub; store 1; end",
		"load 3; load 4; mul; store 1; end",
		"load 3; load 4; div; store 1; end",
		"load 3; load 4; mod; store 1; end",
		"load 3; load 4; lt; store 1; end",
		"load 3; load 4; le; store 1; end",
		"load 3; load 4; gt; store 1; end",
		"load 3; load 4; ge; store 1; end",
		"load 3; not; store 1; end",
		"load 3; truth; store 1; end",
		"load 3; load 4; tuple 2; store 1; end",
		"tuple 0; store 1; end",
		"load 4; tuple 1; store 1; end",
		"load 4; load 3; const 5; tuple 3; store 1; end",
		"load 3; load 4; load 3; tuple 2; eq; store 1; end",
		"load 3; load 4; tuple 0; tuple 2; eq; store 1; end",
		"load 3; send 0 0; end",
		"load 3; load 4; send 1 1; end",
		"load 4; load 3; send 1 1; end",
		"load 3; load 4; const 5; load 6; load 3; send 0 4; end",
		"load 3; load 4; send 1 1; load 4; send 0 0; end",
		"self; load 4; load 3; send 1 2; load 3; load 4; add; store 0; end",
		"self; load 4; load 3; add; send 1 1; end",
		"load 3; jump x; load 4; pop; x: store 1; end",
		"load 5; load 3; add; store 1; load 6; store 0; end",
	} {
		wantPlain(t, body)
	}
}

// P15.2: plain bodies in which the code goes several ways.
func TestPlainJumps(t *testing.T) {
	for _, body := range []string{
		"load 3; unless x; load 4; store 1; x: end",
		"load 3; not; unless x; load 4; store 1; x: end",
		"load 4; load 3; unless x; truth; jump y; x: not; y: store 1; end",
		"load 3; and x; load 4; truth; x: store 1; end",
		"load 3; or x; load 4; truth; x: store 1; end",
		"load 3; and x; load 4; x: store 1; end",
		"load 3; or x; load 4; x: store 1; end",
		"load 4; load 3; and x; load 4; truth; x: eq; store 1; end",
		"load 4; load 3; or x; load 4; truth; x: eq; store 1; end",
		"load 4; load 3; load 4; lt; or x; load 3; load 4; eq; truth; x: tuple 2; store 1; end",
		"load 4; load 3; load 4; lt; and x; load 3; load 4; ne; truth; x: tuple 2; store 1; end",
		"load 3; or x; load 4; and y; load 3; y: truth; x: unless z; const 5; store 1; z: end",
		"x: load 3; load 4; lt; unless y; load 3; const 1; add; store 3; jump x; y: load 3; store 1; end",
		"load 3; x: const 1; add; load 4; load 4; not; store 4; unless x; store 1; end",
		"load 3; x: const 1; sub; load 3; load 4; add; store 3; load 3; load 4; gt; unless x; store 1; end",
		"x: load 3; pop; jump x",
		"x: jump x",
		"x: load 3; unless x; end",
		"x: load 3; const 1; add; store 3; jump x",
		"load 3; unless y; load 3; load 4; add; load 3; pop; pop; y: load 3; store 1; end",
		"load 3; unless y; load 4; unless y; load 4; pop; load 3; pop; y: load 3; store 1; end",
		"load 3; unless y; load 4; load 4; add; store 1; y: load 3; store 0; end",
		"load 3; unless y; load 4; const 5; pop; store 1; y: load 3; store 0; end",
		"load 3; unless y; load 4; self; pop; store 1; y: load 3; store 0; end",
		"load 3; unless y; load 3; load 4; ne; store 1; y: load 3; store 0; end",
		"load 3; unless y; load 4; not; store 1; y: load 3; store 0; end",
		"load 3; unless y; load 4; send 0 0; load 3; store 4; load 3; pop; y: load 4; store 0; end",
		"load 3; load 4; x: store 1; load 1; unless y; load 4; jump x; y: store 0; end",
		"jump x; y: load 3; jump z; x: load 4; unless y; const 5; z: store 1; end",
	} {
		wantPlain(t, body)
	}
}

// P15.2: values that are loaded, or made, before a variable is another one.
func TestPlainStores(t *testing.T) {
	for _, body := range []string{
		"load 3; load 4; store 3; load 3; eq; store 1; end",
		"load 3; load 3; load 4; store 3; tuple 2; store 1; load 3; store 0; end",
		"load 3; load 4; load 3; add; store 3; store 0; end",
		"load 3; load 4; add; load 3; pop; store 4; load 4; store 1; end",
		"load 3; load 4; store 3; store 4; load 3; store 0; load 4; store 1; end",
		"load 3; store 3; load 3; load 4; sub; store 1; end",
		"load 3; const 1; store 3; load 3; load 4; sub; store 1; store 0; end",
		"load 3; load 4; sub; load 4; load 3; mul; add; store 1; end",
		"load 3; load 4; add; store 3; load 3; load 4; add; store 3; load 3; store 0; end",
		"load 3; load 4; tuple 2; store 3; load 3; load 3; tuple 2; store 3; load 3; store 1; end",
		"load 3; load 4; load 4; mul; store 3; load 3; load 4; sub; add; store 3; load 3; store 1; end",
		"load 4; load 3; load 4; eq; store 4; truth; store 1; load 4; store 0; end",
		"const 5; load 3; load 4; store 5; store 6; store 1; load 5; load 6; tuple 2; store 0; end",
	} {
		wantPlain(t, body)
	}
}

// P15.2: an instruction of numbers of which anything else was seen than Ints alone is not plain; and what there are no steps for never is.
func TestNotPlain(t *testing.T) {
	for op := api.OAdd; op <= api.OGe; op++ {
		if op >= api.ONeg && op <= api.ONe {
			continue
		}
		m := handler(t, "load 3; load 4; add; store 1; end")
		m.Fns[0].Code[2].Op = op
		what := code.Show(m.Fns[0].Code[2])
		for _, kinds := range [][2]uint8{{0, 0}, {ints, 0}, {0, ints}, {ints, 1}, {6, 6}, {ints, 6}, {10, ints}, {8, 8}, {255, 255}, {130, ints}, {1, ints}} {
			p := seen(m, ints, ints)
			p.Fns[0].Tops[2] = kinds
			f := wantCode(t, what, m, 0, p)
			// Of what was seen now and then the code may be as it likes; this one leaves it to the interpreter.
			if outs(f) != 1 {
				t.Error(what, kinds, shown(f))
			}
			wantHandled(t, what, m, f, 7)
		}
		// A profile that tells too little is one in which that was not seen; one that tells more is as good as any.
		short := seen(m, ints, ints)
		short.Fns[0].Tops = short.Fns[0].Tops[:2]
		long := seen(m, ints, ints)
		long.Fns[0].Tops = append(long.Fns[0].Tops, [2]uint8{9, 9})
		long.Fns = append(long.Fns, api.Seen{Calls: -1}, api.Seen{Tops: [][2]uint8{{1, 1}}})
		for _, c := range []struct {
			p    api.Profile
			outs int
		}{{api.Profile{}, 1}, {profile.Empty(m), 1}, {short, 1}, {long, 0}, {seen(m, 0, 0), 1}} {
			if f := wantCode(t, what, m, 0, c.p); outs(f) != c.outs {
				t.Error(what, c.p, shown(f))
			}
		}
	}
	for _, body := range []string{
		"load 3; neg; store 1; end",
		"load 3; len; store 1; end",
		"load 3; load 4; cat; store 1; end",
		"load 3; load 4; at; store 1; end",
		"load 3; load 4; load 3; spawn 1; store 1; end",
		"load 3; load 4; load 3; spawn 0; load 4; send 0 1; end",
		"load 3; load 4; store 0; load 0; load 4; become 1",
		"load 3; unless x; stop; x: load 4; store 1; end",
		"load 3; load 4; call 1; store 1; end",
		"load 3; load 4; add; store 1; load 3; len; store 0; end",
		"load 3; load 4; send 0 1; load 3; load 4; neg; add; store 0; end",
		"load 4; load 3; len; load 4; eq; unless x; pop; end; x: store 1; end",
		"load 3; unless x; load 4; neg; jump y; x: load 4; y: store 1; end",
		"load 3; unless x; load 4; neg; store 4; x: load 4; store 1; end",
	} {
		m := handler(t, body)
		for _, p := range []api.Profile{seen(m, ints, ints), profile.Empty(m), seen(m, 255, 255)} {
			f := wantCode(t, body, m, 0, p)
			wantHandled(t, body, m, f, 7)
		}
	}
}

// P15.2: what is left to the interpreter may be another function elsewhere, of more values or fewer: what is behind it is written only for those ways that do not lead through it.
func TestOtherFunctions(t *testing.T) {
	for _, body := range []string{
		"load 3; load 4; call 1; store 1; end",
		"load 3; unless x; load 4; load 4; load 4; call 1; pop; pop; x: load 4; store 1; end",
		"load 4; load 4; lt; or x; load 3; load 3; call 1; x: store 1; end",
		"x: load 3; load 4; lt; unless y; load 3; load 3; const 1; add; call 1; store 3; jump x; y: end",
	} {
		m := handler(t, body)
		m.Fns[1].Code = laid("load 0; unless x; load 1; return; x: const 5; return")
		f := wantCode(t, body, m, 0, seen(m, ints, ints))
		if len(f.Needs) > 0 || outs(f) == 0 {
			t.Error(body, shown(f))
		}
		for _, other := range []api.Fn{
			{Params: 2, Vars: 2, Code: laid("const 0; return")},
			{Params: 0, Vars: 3, Code: laid("const 4; return")},
			{Params: 1, Vars: 1, Code: laid("load 0; const 1; add; return")},
			{Params: 3, Vars: 3, Code: laid("load 0; return")},
			{Params: 30, Vars: 30, Code: laid("load 0; return")},
			{Params: 2, Vars: 2, Code: laid("x: jump x")},
			{Params: 2, Vars: 2, Code: laid("load 0; load 1; call 1; return")},
			{Params: 2, Vars: 2, Code: laid("pop; return")},
		} {
			m.Fns[1] = other
			wantHandled(t, body, m, f, 7)
		}
	}
}

// P15.2: what is only moved about is left out: so a body is done in fewer steps than the interpreter has.
func TestFewSteps(t *testing.T) {
	sums := fn(2, 3, "load 0; load 1; add; return")
	for _, c := range []struct {
		body  string
		steps int
		fn    api.Fn
	}{
		{"load 3; load 4; add; store 1; end", 2, sums},
		{"load 3; pop; load 4; pop; end", 1, sums},
		{"load 3; store 1; end", 2, sums},
		{"load 3; store 3; end", 1, sums},
		{"const 1; store 1; end", 2, sums},
		{"tuple 0; store 1; end", 2, sums},
		{"load 3; load 4; tuple 2; store 1; end", 2, sums},
		{"load 4; load 3; tuple 2; store 1; end", 4, sums},
		{"load 4; load 4; load 4; load 3; tuple 2; store 1; eq; store 0; end", 5, sums},
		{"load 3; load 4; eq; store 1; load 3; load 4; lt; store 0; end", 3, sums},
		{"self; send 0 0; end", 3, sums},
		{"self; load 3; send 1 1; end", 4, sums},
		{"load 3; load 4; lt; unless x; x: end", 3, sums},
		{"load 3; load 4; eq; unless x; const 1; store 1; x: end", 3, sums},
		{"load 3; load 4; ne; unless x; const 1; store 1; x: end", 4, sums},
		{"load 2; unless x; load 3; store 1; load 4; pop; x: end", 3, sums},
		{"load 3; load 4; store 3; store 4; load 4; store 1; end", 5, sums},
		{"load 3; load 4; call 1; store 1; end", 2, sums},
		{"load 3; load 4; call 1; store 1; end", 2, fn(2, 3, "load 0; load 1; add; store 2; load 2; return")},
		{"load 3; load 4; call 1; store 1; end", 2, fn(2, 3, "load 0; store 2; load 2; load 1; sub; return")},
		{"load 3; load 4; call 1; store 1; end", 2, fn(2, 3, "load 0; return")},
		{"load 3; load 4; call 1; pop; end", 1, fn(2, 3, "load 0; store 2; load 2; return")},
		{"load 3; load 4; call 1; pop; end", 2, fn(2, 3, "const 1; store 0; load 0; return")},
		{"const 1; const 2; call 1; store 1; end", 4, fn(2, 2, "load 0; return")},
		{"const 1; const 2; call 1; store 1; end", 3, fn(2, 2, "load 1; return")},
		{"const 1; call 1; store 1; end", 4, fn(1, 1, "load 0; const 5; pop; return")},
		{"const 1; call 1; pop; end", 3, fn(1, 1, "load 0; const 5; pop; return")},
		{"call 1; pop; end", 1, fn(0, 1, "load 0; return")},
		{"const 1; const 0; call 1; store 1; end", 4, fn(2, 2, "load 1; load 0; add; return")},
	} {
		m := handler(t, c.body, c.fn)
		f := wantCode(t, c.body, m, 0, seen(m, ints, ints))
		last := wantAlways(t, c.body, m, f, begun(t, m, 0, 0, 7, number(30), text("state"), truth(true), number(5), number(6)), 60)
		if last.left || last.turn.Over != api.Ended || last.begun != c.steps {
			t.Error(c.body, "took", last.begun, "steps, not", c.steps, shown(f))
		}
	}
}

// P15.2: an actor below 0 is no right value; and yet its turn is as the interpreter has it.
func TestSelfBelowZero(t *testing.T) {
	for _, body := range []string{
		"self; store 1; load 3; load 4; add; store 0; end",
		"self; load 3; load 4; add; eq; store 1; end",
		"self; load 3; load 4; add; send 0 1; end",
		"self; load 3; send 0 1; load 3; load 4; add; store 0; end",
		"self; self; send 0 1; load 3; load 4; add; store 0; end",
		"load 3; self; send 0 1; load 3; load 4; add; store 0; end",
		"self; send 0 0; load 3; load 4; div; store 0; end",
		"load 3; load 4; self; load 3; load 4; add; send 0 3; end",
		"self; load 3; tuple 2; store 1; end",
		"self; tuple 1; store 1; end",
		"self; truth; store 1; end",
		"self; not; store 1; end",
		"self; unless x; x: end",
		"self; self; ne; unless x; self; store 1; x: load 3; load 4; lt; store 0; end",
		"self; pop; load 3; not; store 1; end",
		"self; load 4; and x; load 3; truth; x: eq; store 1; end",
		"self; load 4; or x; load 3; truth; x: eq; store 1; end",
		"self; load 3; send 1 0; store 1; load 3; len; store 0; end",
		"self; load 3; load 4; call 1; store 0; store 1; load 3; not; store 0; end",
		"load 3; self; call 1; store 0; load 3; not; store 1; end",
	} {
		m := handler(t, body)
		for _, p := range []api.Profile{seen(m, ints, ints), profile.Empty(m)} {
			f := wantCode(t, body, m, 0, p)
			for _, self := range []int64{0, 1, math.MaxInt64, -1, math.MinInt64} {
				wantHandled(t, body, m, f, self)
			}
		}
	}
}
