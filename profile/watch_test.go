package profile_test

import (
	"fmt"
	"math"
	"reflect"
	"slices"
	"strings"
	"testing"

	"drover/api"
	"drover/base"
	"drover/profile"
)

// begun is a turn of the role 0 that must begin.
func begun(t *testing.T, m api.Module, state []api.Value, tag string, args ...api.Value) api.Turn {
	t.Helper()
	x, e := base.Begin(m, 0, state, tag, args, 7, 50)
	if e != api.OK {
		t.Fatalf("Begin(%v, %q, %v): %d", state, tag, args, e)
	}
	return x
}

// alike tells whether two turns have the same: an empty list and none are told alike.
func alike(a, b api.Turn) bool {
	return reflect.DeepEqual(plain(a), plain(b))
}

// plain is a turn in memory of its own, without a list that is empty.
func plain(t api.Turn) api.Turn {
	var values func(l []api.Value) []api.Value
	values = func(l []api.Value) (all []api.Value) {
		for _, v := range l {
			v.L = values(v.L)
			all = append(all, v)
		}
		return all
	}
	x := t
	x.Frames, x.Effects, x.State = nil, nil, values(t.State)
	for _, f := range t.Frames {
		x.Frames = append(x.Frames, api.Frame{Fn: f.Fn, At: f.At, Vars: values(f.Vars), Stack: values(f.Stack)})
	}
	for _, e := range t.Effects {
		e.Args = values(e.Args)
		x.Effects = append(x.Effects, e)
	}
	return x
}

// sightings is what was seen of some functions, by their places: how often each was begun, and the sets of its first instructions. Of what is not told nothing was seen.
type sightings map[int]string

// profileOf is the profile of m in which that was seen.
func profileOf(t *testing.T, m api.Module, all sightings) (p api.Profile) {
	t.Helper()
	for i, f := range m.Fns {
		s := api.Seen{Tops: make([][2]uint8, len(f.Code))}
		for k, word := range strings.Fields(all[i]) {
			var e error
			if k == 0 {
				_, e = fmt.Sscanf(word, "%d:", &s.Calls)
			} else {
				_, e = fmt.Sscanf(word, "%d.%d", &s.Tops[k-1][0], &s.Tops[k-1][1])
			}
			if e != nil {
				t.Fatal(word, e)
			}
		}
		p.Fns = append(p.Fns, s)
	}
	return p
}

// wantWatch wants that profile of Watch, beside what base.Run tells, and that what is handed in stays.
func wantWatch(t *testing.T, what string, m api.Module, x api.Turn, steps int, want api.Profile) {
	t.Helper()
	ahead := plain(x)
	got, p := profile.Watch(m, x, steps)
	if run := base.Run(m, x, steps); !alike(got, run) {
		t.Errorf("%s: %v, not %v", what, got, run)
	}
	if !alike(x, ahead) {
		t.Errorf("%s: the turn that was handed in was changed", what)
	}
	wantTold(t, what, p, told(want))
}

// wantSeen wants of Watch a profile in which that was seen.
func wantSeen(t *testing.T, what string, m api.Module, x api.Turn, steps int, all sightings) {
	t.Helper()
	wantWatch(t, what, m, x, steps, profileOf(t, m, all))
}

// P13.1: what is seen of the counter, step by step.
func TestWatch(t *testing.T) {
	m := compiled(t, counter)
	x := begun(t, m, list(number(3)), "add", number(4))
	for _, c := range []struct {
		steps int
		want  string
	}{
		{math.MinInt, ""}, {-1, ""}, {0, ""}, {1, "1:"}, {2, "1: 0.0 2.0"}, {3, "1: 0.0 2.0 2.2"}, {4, "1: 0.0 2.0 2.2 2.0"},
		{5, "1: 0.0 2.0 2.2 2.0"}, {6, "1: 0.0 2.0 2.2 2.0"}, {math.MaxInt, "1: 0.0 2.0 2.2 2.0"},
	} {
		wantSeen(t, fmt.Sprint(c.steps, " steps"), m, x, c.steps, sightings{0: c.want})
	}
	// Of a turn that is under way what is behind it was not seen.
	for i, want := range []string{"1: 0.0 2.0 2.2 2.0", "0: 0.0 2.0 2.2 2.0", "0: 0.0 0.0 2.2 2.0", "0: 0.0 0.0 0.0 2.0", ""} {
		wantSeen(t, fmt.Sprint("from ", i), m, x, 100, sightings{0: want})
		x = base.Step(m, x)
	}
	// An instruction that traps was begun.
	wantSeen(t, "a trap", m, begun(t, m, list(number(3)), "add", truth(1)), 100, sightings{0: "1: 0.0 2.0 4.2"})
	wantSeen(t, "a trap of the other one", m, begun(t, m, list(text("")), "add", number(1)), 100, sightings{0: "1: 0.0 8.0 2.8"})
	// The steps that were used ahead of it do not count, however many.
	for _, used := range []int{1, math.MaxInt - 2, math.MaxInt, math.MinInt, -3} {
		x := begun(t, m, list(number(3)), "add", number(4))
		x.Used = used
		wantSeen(t, fmt.Sprint("used ", used), m, x, 100, sightings{0: "1: 0.0 2.0 2.2 2.0"})
		wantSeen(t, fmt.Sprint("used ", used), m, x, 3, sightings{0: "1: 0.0 2.0 2.2"})
	}
}

// P13.1: each kind, on top and below; of what is further below nothing is seen.
func TestWatchKinds(t *testing.T) {
	m := api.Module{
		Consts: list(number(1), truth(1), text("a"), tuple(), actor(9)),
		Fns:    []api.Fn{{}},
		Roles:  []api.Part{{On: []api.On{{Tag: "go"}}}},
	}
	code := &m.Fns[0].Code
	for _, c := range []int{0, 1, 2, 3, 4, 4, 3, 2, 1, 0} {
		*code = append(*code, api.Ins{Op: api.OConst, A: c})
	}
	for range 10 {
		*code = append(*code, api.Ins{Op: api.OPop})
	}
	*code = append(*code, api.Ins{Op: api.OEnd})
	up := "0.0 2.0 4.2 8.4 16.8 32.16 32.32 16.32 8.16 4.8"
	down := "2.4 4.8 8.16 16.32 32.32 32.16 16.8 8.4 4.2 2.0"
	wantSeen(t, "kinds", m, begun(t, m, nil, "go"), 100, sightings{0: "1: " + up + " " + down})
}

// P13.1: what is seen of functions that are begun again and again.
func TestWatchAgain(t *testing.T) {
	m := compiled(t, `func same(a) { return a; }
		func down(k) { if (k > 0) { call down(k - 1); } }
		actor c(n) {
			on calls(x) { call same(n); call same(x); call same(self); call same((1, 2)); call same("t"); }
			on down(k) { call down(k); }
			on loop(k) { while (k > 0) { set k = k - 1; } }
		}`)
	// Sets keep what they have.
	wantSeen(t, "one function of many kinds", m, begun(t, m, list(number(3)), "calls", truth(1)), 100,
		sightings{0: "5: 0.0 62.0", 2: "1: 0.0 2.0 2.0 0.0 4.0 4.0 0.0 32.0 32.0 0.0 2.0 2.2 16.0 16.0 0.0 8.0 8.0"})
	// down: load, const, gt, unless, load, const, sub, call, pop, const, return.
	for k := range int64(5) {
		want := sightings{1: fmt.Sprint(k+1, ": 0.0 2.0 2.2 4.0 0.0 2.0 2.2 2.0 2.0 0.0 2.0"), 3: "1: 0.0 2.0 2.0"}
		if k == 0 {
			want[1] = "1: 0.0 2.0 2.2 4.0 0.0 0.0 0.0 0.0 0.0 0.0 2.0"
		}
		wantSeen(t, fmt.Sprint("down ", k), m, begun(t, m, list(number(3)), "down", number(k)), 1000, want)
	}
	wantSeen(t, "too deep", m, begun(t, m, list(number(3)), "down", number(400)), 10000,
		sightings{1: "49: 0.0 2.0 2.2 4.0 0.0 2.0 2.2 2.0", 3: "1: 0.0 2.0"})
	// The loop leads back to the body's first instruction: each time is one of its Calls.
	for k := range int64(5) {
		want := fmt.Sprint(k+1, ": 0.0 2.0 2.2 4.0 0.0 2.0 2.2 2.0")
		if k == 0 {
			want = "1: 0.0 2.0 2.2 4.0"
		}
		wantSeen(t, fmt.Sprint("loop ", k), m, begun(t, m, list(number(3)), "loop", number(k)), 1000, sightings{4: want})
	}
	// The last frame alone is at work.
	x := begun(t, m, list(number(3)), "calls", truth(1))
	x.Frames = append(x.Frames, api.Frame{Fn: 0, At: 1, Vars: list(number(1)), Stack: list(actor(1), text("a"), truth(1))})
	wantSeen(t, "a frame on top", m, x, 1, sightings{0: "0: 0.0 4.8"})
	wantSeen(t, "a frame on top, and the one below", m, x, 3, sightings{0: "0: 0.0 4.8", 2: "1: 4.0 2.4"})
}

// P13.1: of a turn that is not run at all nothing is seen; where there is no module, there is no profile either.
func TestWatchNothing(t *testing.T) {
	m := compiled(t, counter)
	for i, spoil := range []func(x *api.Turn){
		func(x *api.Turn) { x.Over = api.Ended },
		func(x *api.Turn) { x.Over = api.Trapped },
		func(x *api.Turn) { x.Over = 77 },
		func(x *api.Turn) { x.Frames = nil },
		func(x *api.Turn) { x.State = nil },
		func(x *api.Turn) { x.Role = 1 },
		func(x *api.Turn) { x.Role = -1 },
		func(x *api.Turn) { x.Frames[0].Fn = 1 },
		func(x *api.Turn) { x.Frames[0].Fn = -1 },
		func(x *api.Turn) { x.Frames[0].At = 5 },
		func(x *api.Turn) { x.Frames[0].At = -1 },
		func(x *api.Turn) { x.Frames[0].Vars = nil },
		func(x *api.Turn) { x.Frames[0].Vars[0] = api.Value{} },
		func(x *api.Turn) { x.Frames[0].Vars[1] = api.Value{Kind: 200} },
		func(x *api.Turn) { x.Frames[0].Stack = list(actor(-1)) },
		func(x *api.Turn) { x.Frames[0].Stack = make([]api.Value, api.MaxStack+1) },
		func(x *api.Turn) { x.Effects = []api.Effect{{Args: list(truth(2))}} },
		func(x *api.Turn) { *x = api.Turn{} },
	} {
		x := begun(t, m, list(number(3)), "add", number(4))
		spoil(&x)
		wantSeen(t, fmt.Sprint("wrong turn ", i), m, x, 100, nil)
	}
	wantSeen(t, "no such tag", m, begun(t, m, list(number(3)), "fog"), 100, nil)
	x := begun(t, m, list(number(3)), "add", number(4))
	endless := list(tuple())
	endless[0].L = endless
	x.Frames[0].Stack = endless
	_, p := profile.Watch(m, x, 100)
	wantTold(t, "a value within itself", p, told(profileOf(t, m, nil)))
	x = begun(t, m, list(number(3)), "add", number(4))
	wantWatch(t, "no module", api.Module{}, x, 100, fns())
	m.Fns[0].Code[0].A = 2
	wantWatch(t, "a wrong module", m, x, 100, fns())
	x.Over = api.Ended
	wantWatch(t, "a wrong module, over", m, x, 100, fns())
}

// Who it is and who is spawned may be any number: an actor below 0 is no right value, but base.Run goes on, and more is seen.
func TestWatchAnyActors(t *testing.T) {
	m := compiled(t, `actor c(a, b) {
			on same() { if (self == a) { "a"; } if (self == b) { "b"; } }
			on kids() { let x = spawn d(); let y = spawn d(); if (x == a) { "a"; } if (y == b) { "b"; } if (y == self) { "s"; } }
			on wrap() { let x = self; 1; let y = (x, 1); 1; }
		} actor d() { }`)
	// An if of two that are the same has a set more than one of others.
	asks := func(what string, fn int, x api.Turn, same ...bool) {
		t.Helper()
		want := "1:"
		if fn == 1 {
			want += " 0.0 32.0 0.0 32.0"
		}
		for _, s := range same {
			want += " 0.0 32.0 32.32 4.0 0.0"
			if s {
				want += " 8.0"
			} else {
				want += " 0.0"
			}
		}
		wantSeen(t, what, m, x, 100, sightings{fn: want})
	}
	for _, self := range []int64{math.MinInt64, math.MinInt64 + 1, -7, -1, 0, 1, 7, math.MaxInt64} {
		for _, a := range []int64{0, 1, 6, 7, math.MaxInt64 - 1, math.MaxInt64} {
			for _, b := range []int64{0, 7} {
				x, _ := base.Begin(m, 0, list(actor(a), actor(b)), "same", nil, self, 50)
				asks(fmt.Sprint("same ", self, a, b), 0, x, self == a, self == b)
			}
		}
	}
	for _, c := range []struct{ next, a, b, self int64 }{
		{50, 50, 51, 51}, {50, 51, 50, 50}, {50, 0, 1, 2}, {0, 0, 1, 1}, {0, 1, 0, 0}, {1, 1, 0, 0}, {-1, 0, 0, 0}, {-1, 0, 0, -1}, {-1, 1, 1, 1}, {-2, 0, 1, -1}, {-2, 5, 6, -3}, {-2, 0, 0, -2},
		{math.MinInt64, 0, 1, math.MinInt64 + 1}, {math.MinInt64, 1, 0, math.MinInt64}, {math.MaxInt64, math.MaxInt64, 0, math.MinInt64}, {math.MaxInt64, 0, math.MaxInt64, 0},
		{math.MaxInt64 - 1, math.MaxInt64 - 1, math.MaxInt64, math.MaxInt64}, {math.MaxInt64 - 1, 0, 1, 2},
	} {
		x, _ := base.Begin(m, 0, list(actor(c.a), actor(c.b)), "kids", nil, c.self, c.next)
		second := c.next + 1
		asks(fmt.Sprint("kids ", c), 1, x, c.next == c.a, second == c.b, second == c.self)
	}
	// A tuple of an actor below 0 may not be: there it ends.
	x, _ := base.Begin(m, 0, list(number(1), number(1)), "wrap", nil, -1, 50)
	wantSeen(t, "wrap", m, x, 100, sightings{2: "1: 0.0 32.0 0.0 2.0 0.0 32.0 2.32"})
	x, _ = base.Begin(m, 0, list(number(1), number(1)), "wrap", nil, 1, -50)
	wantSeen(t, "wrap", m, x, 100, sightings{2: "1: 0.0 32.0 0.0 2.0 0.0 32.0 2.32 16.0 0.0 2.0"})
}

// Wherever somebody stands whom a turn has known from its begin, that one is not taken for another one.
func TestWatchKnownActors(t *testing.T) {
	// Of another one the last instructions are done, too.
	unless := []api.Ins{{Op: api.OSelf}, {Op: api.OEq}, {Op: api.OUnless}, {Op: api.OEnd}, {Op: api.OConst}, {Op: api.OPop}, {Op: api.OEnd}}
	part := []api.Ins{{Op: api.OConst}, {Op: api.OAt}}
	for _, c := range []struct {
		what        string
		constant    api.Value
		vars, stack []api.Value
		begin       []api.Ins
		ahead       string
	}{
		{"a constant", actor(0), list(number(0)), nil, []api.Ins{{Op: api.OConst, A: 1}}, "0.0"},
		{"within a constant", tuple(number(7), tuple(), tuple(actor(0))), list(number(0)), nil, []api.Ins{{Op: api.OConst, A: 1}, {Op: api.OConst, A: 2}, {Op: api.OAt}, {Op: api.OConst}, {Op: api.OAt}}, "0.0 16.0 2.16 16.0 2.16"},
		{"a variable", number(9), list(actor(0)), nil, []api.Ins{{Op: api.OLoad}}, "0.0"},
		{"within a variable", number(9), list(tuple(actor(0))), nil, slices.Concat([]api.Ins{{Op: api.OLoad}}, part), "0.0 16.0 2.16"},
		{"on the stack", number(9), list(number(0)), list(actor(0)), nil, ""},
		{"within what is on the stack", number(9), list(number(0)), list(tuple(actor(0))), part, "16.0 2.16"},
	} {
		code := append(slices.Clone(c.begin), unless...)
		code[len(c.begin)+2].A = len(c.begin) + 4
		m := api.Module{
			Consts: list(number(0), c.constant, number(2)),
			Fns:    []api.Fn{{Vars: 1, Code: code}},
			Roles:  []api.Part{{On: []api.On{{Tag: "go"}}}},
		}
		for _, self := range []int64{math.MinInt64, -1, 0, 1, 2} {
			x, e := base.Begin(m, 0, nil, "go", nil, self, -9)
			x.Frames[0].Vars, x.Frames[0].Stack = c.vars, c.stack
			want := "1: " + c.ahead + " 32.0 32.32 4.0"
			if self != 0 {
				want += " 0.0 0.0 2.0"
			}
			if e != api.OK || !base.Right(m, x) {
				t.Error(c.what, e)
			}
			wantSeen(t, fmt.Sprint(c.what, self), m, x, 100, sightings{0: want})
		}
	}
}

// R3: what is handed out is new, wherever it is from.
func TestWatchOwnMemory(t *testing.T) {
	m := compiled(t, "func f(a) { return (a, a); } actor c(n) { on go(x) { send self go(x, x); set n = call f(x); let y = spawn c(x); } }")
	one := tuple(tuple(number(1)), tuple(text("b"), number(2)))
	for _, steps := range []int{0, 1, 5, 100} {
		x := begun(t, m, list(one), "go", one)
		for x.Over == api.Going {
			y, p := profile.Watch(m, x, steps)
			z, q := profile.Watch(m, x, steps)
			wantOwn(t, fmt.Sprint("Watch of ", steps), struct {
				Y, Z api.Turn
				P, Q api.Profile
			}{y, z, p, q}, m, x)
			x = base.Step(m, x)
		}
		y, p := profile.Watch(m, x, steps)
		wantOwn(t, "Watch of what is over", struct {
			Y api.Turn
			P api.Profile
		}{y, p}, m, x)
	}
}
