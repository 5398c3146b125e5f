package tier_test

import (
	"fmt"
	"math"
	"math/rand/v2"
	"slices"
	"strconv"
	"strings"
	"testing"

	"drover/api"
	"drover/base"
	"drover/code"
	"drover/ir"
	"drover/opt"
	"drover/profile"
	"drover/tier"
)

// wantSame wants that f does what the interpreter does, with so many steps, and answers what that is and whether a step left.
func wantSame(t *testing.T, what string, m api.Module, f api.Fast, x api.Turn, steps int) (api.Turn, bool) {
	t.Helper()
	want := base.Run(m, x, steps)
	got, begun := tier.Run(m, f, x, steps)
	if told(got) != told(want) {
		t.Fatalf("%s: with %d steps of\n%s\n%s\nwant\n%s\nby\n%s", what, steps, told(x), told(got), told(want), shown(f))
	}
	_, wantBegun, left := secondRun(m, f, x, steps)
	if begun != wantBegun || begun < 1 {
		t.Fatalf("%s: with %d steps: %d begun, want %d of %s", what, steps, begun, wantBegun, shown(f))
	}
	return want, left
}

// P16.2: bodies compiled by what was seen, and by what was not, with values of each kind, and any number of steps.
func TestCompiled(t *testing.T) {
	m := compiled(t, `func half(x) { return x / 2; } func both(a, b) { let c = call half(a); return c * b; }
		actor c(n) {
			on sum(k) { let i = 0; while (i < k) { set i = i + 1; set n = n + i; } }
			on both(a, b) { if (a && !b || n == 0) { send self go((a, n)); } else { set n = 0 - 1; } }
			on half(x, y) { set n = call both(x, y) + call half(n); }
			on sends(a, b) { send a go(b, self); send a go(); let c = (a, b, (n, "x")); send b go(c); set n = c == n || a != b; }
			on reckons(a, b) { set n = a * b - a / b + a % b; let c = a < b; let d = a <= b; let e = a > b; let f = a >= b; set n = (n, c, d, e, f); }
			on texts(a, b) { let c = a ++ b; set n = len(c); send self go(c[0]); }
			on spawns(a, b) { let c = spawn c(a); send c sum(b); become c(-n); }
			on wraps(a) { let c = (self, a); set n = a + 1; send self wraps(c); }
			on ends() { stop; }
		}`)
	for on, h := range m.Roles[0].On {
		watched := profile.Empty(m)
		for _, a := range operands() {
			args := append(list(a), operands()[0])[:min(h.Params, 2)]
			x, _ := base.Begin(m, 0, list(a), h.Tag, args, 4, 100)
			_, p := profile.Watch(m, x, 100)
			watched = profile.Add(watched, p)
		}
		for which, p := range []api.Profile{seen(m), watched, profile.Empty(m), {}} {
			f, e := opt.Compile(m, h.Fn, p)
			if e != api.OK {
				t.Fatal(on, e)
			}
			for i, a := range operands() {
				for k, b := range operands() {
					x, e := base.Begin(m, 0, list(operands()[(i+k)%len(operands())]), h.Tag, list(a, b)[:h.Params], []int64{4, 0, -4}[(i+2*k)%3], 100)
					if e != api.OK {
						t.Fatal(on, e)
					}
					what := fmt.Sprint(h.Tag, " by ", which)
					last, _ := wantSame(t, what, m, f, x, 100)
					wantSame(t, what, m, f, x, last.Used-1)
					wantSame(t, what, m, f, x, (i*7+k)%(last.Used+1)-1)
				}
			}
		}
	}
}

// author writes programs by chance.
type author struct {
	*maker
	text  strings.Builder
	scope []string // the names that are seen; the first letter of each tells what it mostly is: n a number, b a truth, and so on
	made  int      // how many names were given
	fns   int      // how many functions may be called, each of two values
}

// name is a new name of what is that.
func (a *author) name(what string) string {
	a.made++
	return what + strconv.Itoa(a.made)
}

// known is a name that is seen, mostly of what is that, or else.
func (a *author) known(what, otherwise string) string {
	if len(a.scope) == 0 {
		return otherwise
	}
	for range 6 {
		if name := a.scope[a.IntN(len(a.scope))]; name[0] == what[0] || a.IntN(40) == 0 {
			return name
		}
	}
	return otherwise
}

// number writes what mostly is one.
func (a *author) number(deep int) string {
	if deep == 0 || a.IntN(4) == 0 {
		return one(a.maker, a.known("n", "3"), a.known("n", "1"), strconv.Itoa(a.IntN(7)))
	}
	switch n := a.IntN(24); {
	case n < 4 && a.fns > 0:
		return fmt.Sprintf("call f%d(%s, %s)", a.IntN(a.fns), a.number(deep-1), a.number(deep-1))
	case n == 5:
		return "-(" + a.number(deep-1) + ")"
	case n == 6:
		return "len(" + a.any(deep-1) + ")"
	}
	return "(" + a.number(deep-1) + one(a.maker, " + ", " + ", " - ", " - ", " * ", " / ", " % ") + a.number(deep-1) + ")"
}

// truth writes what mostly is one.
func (a *author) truth(deep int) string {
	if deep == 0 || a.IntN(5) == 0 {
		return one(a.maker, a.known("b", "true"), "true", "false")
	}
	switch a.IntN(7) {
	case 0:
		return "!(" + a.truth(deep-1) + ")"
	case 1, 2:
		return "(" + a.truth(deep-1) + one(a.maker, " && ", " || ") + a.truth(deep-1) + ")"
	case 3:
		return "(" + a.any(deep-1) + one(a.maker, " == ", " != ") + a.any(deep-1) + ")"
	}
	return "(" + a.number(deep-1) + one(a.maker, " < ", " <= ", " > ", " >= ", " == ", " != ") + a.number(deep-1) + ")"
}

// any writes a value.
func (a *author) any(deep int) string {
	switch a.IntN(9) {
	case 0, 1, 2:
		return a.number(deep)
	case 3, 4:
		return a.truth(deep)
	case 5:
		return a.known("t", `"x"`)
	case 6:
		return "self"
	}
	if deep == 0 {
		return "()"
	}
	return "(" + a.any(deep-1) + ", " + a.any(deep-1) + ")"
}

// valueOf writes one of what is that.
func (a *author) valueOf(what byte) string {
	switch what {
	case 'n':
		return a.number(2)
	case 'b':
		return a.truth(2)
	}
	return a.any(2)
}

// block writes statements in braces.
func (a *author) block(deep int, ends string) {
	outer := len(a.scope)
	a.text.WriteString("{ ")
	for range 1 + a.IntN(4) {
		a.statement(deep)
	}
	a.text.WriteString(ends + "} ")
	a.scope = a.scope[:outer]
}

// statement writes one.
func (a *author) statement(deep int) {
	write := func(all ...string) { a.text.WriteString(strings.Join(all, "")) }
	switch n := a.IntN(24); {
	case n < 5 && len(a.scope) < 20:
		name := a.name(one(a.maker, "n", "n", "b", "t"))
		write("let ", name, " = ", a.valueOf(name[0]), "; ")
		a.scope = append(a.scope, name)
	case n < 12 && len(a.scope) > 0:
		name := a.scope[a.IntN(len(a.scope))]
		write("set ", name, " = ", a.valueOf(name[0]), "; ")
	case n < 15 && deep > 0:
		write("if (", a.truth(2), ") ")
		a.block(deep-1, "")
		if a.IntN(2) == 0 {
			write("else ")
			a.block(deep-1, "")
		}
	case n < 17 && deep > 0 && len(a.scope) < 20:
		name := a.name("n")
		write("let ", name, " = 0; while (", name, " < ", strconv.Itoa(1+a.IntN(3)), ") ")
		a.scope = append(a.scope, name)
		a.block(deep-1, "set "+name+" = "+name+" + 1; ")
	case n < 21:
		write("send ", one(a.maker, "self", "self", a.known("t", "self")), " go(", a.any(1), ", ", a.any(2), "); ")
	case n == 21 && a.IntN(4) == 0:
		write("let ", a.name("t"), " = spawn c(", a.any(1), ", ", a.any(1), "); ")
	default:
		write(a.any(2), "; ")
	}
}

// program writes one: functions, most of which go straight to their end, and an actor.
func (a *author) program() string {
	for fn := range 1 + a.IntN(3) {
		a.scope = []string{a.name("n"), a.name("n")}
		fmt.Fprintf(&a.text, "func f%d(%s, %s) { ", fn, a.scope[0], a.scope[1])
		for range a.IntN(2) {
			name := a.name("n")
			fmt.Fprintf(&a.text, "let %s = %s; ", name, a.number(1))
			a.scope = append(a.scope, name)
		}
		if a.IntN(4) == 0 {
			a.statement(1)
		}
		a.text.WriteString("return " + a.number(2) + "; } ")
		a.fns = fn + 1
	}
	state := []string{a.name("n"), a.name("t")}
	fmt.Fprintf(&a.text, "actor c(%s, %s) { ", state[0], state[1])
	for _, tag := range []string{"go", "on"} {
		args := []string{a.name("n"), a.name("b")}
		a.scope = append(slices.Clone(state), args...)
		fmt.Fprintf(&a.text, "on %s(%s, %s) ", tag+"x", args[0], args[1])
		a.block(2, one(a.maker, "", "", "", "", "stop; ", "become c(1, self); "))
	}
	return a.text.String() + "}"
}

// begun is a turn by chance of an On of such a program.
func (a *author) begun(t *testing.T, m api.Module, tag string) api.Turn {
	t.Helper()
	state := list(a.value(api.VInt), a.value(one(a.maker, api.VInt, api.VActor, api.VTuple)))
	args := list(a.value(api.VInt), a.value(api.VBool))
	x, e := base.Begin(m, 0, state, tag, args, one[int64](a.maker, 7, 7, 7, 7, 0, 1<<40, -7, math.MinInt64), 1000)
	if e != api.OK {
		t.Fatal(e)
	}
	return x
}

// profile is one by chance: of turns that were watched, of Ints everywhere, or of nothing.
func (a *author) profile(t *testing.T, m api.Module) api.Profile {
	t.Helper()
	switch a.IntN(8) {
	case 0:
		return profile.Empty(m)
	case 1, 2, 3:
		return seen(m)
	}
	all := profile.Empty(m)
	for range 1 + a.IntN(3) {
		for _, on := range m.Roles[0].On {
			_, p := profile.Watch(m, a.begun(t, m, on.Tag), 100)
			all = profile.Add(all, p)
		}
	}
	return all
}

// others is m with another function instead of each that f does not rest on.
func others(m api.Module, f api.Fast) api.Module {
	m.Fns = slices.Clone(m.Fns)
	for fn := range m.Fns {
		if fn != f.Fn && !slices.ContainsFunc(f.Needs, func(n api.Need) bool { return n.Fn == fn }) {
			m.Fns[fn].Code = slices.Concat([]api.Ins{{Op: api.OSelf}, {Op: api.OPop}}, m.Fns[fn].Code)
			for k := range m.Fns[fn].Code[2:] {
				if i := &m.Fns[fn].Code[2+k]; i.Op >= api.OJump && i.Op <= api.OOr {
					i.A += 2
				}
			}
		}
	}
	return m
}

// P16.2: programs by chance, by profiles by chance: each turn is as base.Run has it, to the step; where what the code rests on is another one, it is not used.
func TestCompiledByChance(t *testing.T) {
	var n struct{ bodies, resting, ended, trapped, fuel, left, begun, used int }
	for seed := range uint64(1500) {
		a := &author{maker: &maker{Rand: rand.New(rand.NewPCG(162, seed))}}
		text := a.program()
		m := compiled(t, text)
		for _, on := range m.Roles[0].On {
			f, e := opt.Compile(m, on.Fn, a.profile(t, m))
			if e != api.OK {
				continue
			}
			what := fmt.Sprint("seed ", seed, " ", text)
			n.bodies++
			for range 4 {
				x := a.begun(t, m, on.Tag)
				last, left := wantSame(t, what, m, f, x, 200)
				switch {
				case left:
					n.left++
				case last.Over == api.Ended:
					n.ended++
					_, begun := tier.Run(m, f, x, 200)
					n.begun, n.used = n.begun+begun, n.used+last.Used
				case last.Trap == trapFuel:
					n.fuel++
				}
				if last.Over == api.Trapped {
					n.trapped++
				}
				for _, steps := range []int{last.Used, last.Used - 1, a.IntN(last.Used + 1), a.IntN(last.Used + 1), 0} {
					wantSame(t, what, m, f, x, steps)
				}
				wantSame(t, what+" with others", others(m, f), f, x, 200)
			}
			if len(f.Needs) > 0 {
				n.resting++
				other := others(m, api.Fast{Fn: -1})
				if code.Check(other) != api.OK || ir.Holds(other, f) {
					t.Fatal(what)
				}
				wantNotFit(t, what, other, f, a.begun(t, m, on.Tag))
			}
		}
	}
	if n.bodies < 2500 || n.resting < 300 || n.ended < 1500 || n.trapped < 1500 || n.left < 2500 || n.begun*10 > n.used*8 {
		t.Errorf("too little was tried: %+v", n)
	}
}
