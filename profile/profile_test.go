package profile_test

import (
	"fmt"
	"math"
	"reflect"
	"slices"
	"strings"
	"testing"

	"drover/api"
	"drover/code"
	"drover/profile"
	"drover/tree"
)

// The limits, as the chapter has them.
const (
	mostCalls = 1 << 40
	mostFns   = 1 << 12
	mostCode  = 1 << 14
)

// The kinds as sets of one.
const (
	ofInt, ofBool, ofBytes, ofTuple, ofActor = 2, 4, 8, 16, 32
)

const counter = "actor c(n) { on add(x) { set n = n + x; } }"

// number, truth, text, actor and tuple are values.
func number(n int64) api.Value       { return api.Value{Kind: api.VInt, N: n} }
func truth(n int64) api.Value        { return api.Value{Kind: api.VBool, N: n} }
func text(s string) api.Value        { return api.Value{Kind: api.VBytes, S: s} }
func actor(n int64) api.Value        { return api.Value{Kind: api.VActor, N: n} }
func tuple(l ...api.Value) api.Value { return api.Value{Kind: api.VTuple, L: l} }
func list(l ...api.Value) []api.Value {
	return l
}

// compiled is the module of a text.
func compiled(t *testing.T, text string) api.Module {
	t.Helper()
	p, f := tree.Parse(text)
	m, g := code.Compile(p)
	if f != (api.Fault{}) || g != (api.Fault{}) {
		t.Fatalf("%v %v of %s", f, g, text)
	}
	return m
}

// told is all that a profile has: of each function Calls, and each instruction's sets. An empty list and none are told alike.
func told(p api.Profile) string {
	fns := []string{}
	for _, f := range p.Fns {
		all := fmt.Sprint(f.Calls, ":")
		for _, sets := range f.Tops {
			all += fmt.Sprintf(" %d.%d", sets[0], sets[1])
		}
		fns = append(fns, all)
	}
	return strings.Join(fns, " | ")
}

// wantTold wants that of a profile.
func wantTold(t *testing.T, what string, p api.Profile, want string) {
	t.Helper()
	if got := told(p); got != want {
		t.Errorf("%s: %s, not %s", what, got[:min(len(got), 1000)], want[:min(len(want), 1000)])
	}
}

// fns is a profile of these functions.
func fns(all ...api.Seen) api.Profile {
	return api.Profile{Fns: all}
}

// seen is a function's Calls, and the sets of its instructions.
func seen(calls int, sets ...uint8) api.Seen {
	f := api.Seen{Calls: calls}
	for pair := range slices.Chunk(sets, 2) {
		f.Tops = append(f.Tops, [2]uint8{pair[0], pair[1]})
	}
	return f
}

// kept is a profile in memory of its own.
func kept(p api.Profile) api.Profile {
	p.Fns = slices.Clone(p.Fns)
	for i, f := range p.Fns {
		p.Fns[i].Tops = slices.Clone(f.Tops)
	}
	return p
}

// roomy is a profile with spare room behind each of its lists, in which there is something.
func roomy(p api.Profile) api.Profile {
	p = kept(p)
	for i, f := range p.Fns {
		p.Fns[i].Tops = append(f.Tops, [2]uint8{7, 7}, [2]uint8{7, 7})[:len(f.Tops)]
	}
	p.Fns = append(p.Fns, seen(77), seen(77))[:len(p.Fns)]
	return p
}

// room is what stands in a profile's spare room.
func room(p api.Profile) string {
	all := fmt.Sprint(p.Fns[len(p.Fns):cap(p.Fns)])
	for _, f := range p.Fns {
		all += fmt.Sprint(f.Tops[len(f.Tops):cap(f.Tops)])
	}
	return all
}

// lists is where all lists that have anything, or have room for it, stand.
func lists(x reflect.Value) (all []uintptr) {
	switch x.Kind() {
	case reflect.Slice:
		if x.Cap() > 0 {
			all = append(all, x.Pointer())
		}
		for i := range x.Len() {
			all = append(all, lists(x.Index(i))...)
		}
	case reflect.Struct:
		for i := range x.NumField() {
			all = append(all, lists(x.Field(i))...)
		}
	}
	return all
}

// wantOwn wants that an answer's lists stand apart from one another, and from what was handed in.
func wantOwn(t *testing.T, what string, answer any, given ...any) {
	t.Helper()
	has := map[uintptr]bool{}
	for _, g := range given {
		for _, at := range lists(reflect.ValueOf(g)) {
			has[at] = true
		}
	}
	for _, at := range lists(reflect.ValueOf(answer)) {
		if has[at] {
			t.Errorf("%s: two lists share memory", what)
			return
		}
		has[at] = true
	}
}

// P13.1: a profile in which nothing was seen has each function, and each instruction of it.
func TestEmpty(t *testing.T) {
	wantTold(t, "the counter", profile.Empty(compiled(t, counter)), "0: 0.0 0.0 0.0 0.0 0.0")
	wantTold(t, "two functions and two bodies", profile.Empty(compiled(t, "func f() { } func g(a) { a; } actor c() { on a() { } on b() { stop; } }")),
		"0: 0.0 0.0 | 0: 0.0 0.0 0.0 0.0 | 0: 0.0 | 0: 0.0 0.0")
	wantTold(t, "no function", profile.Empty(api.Module{}), "")
	wantTold(t, "a role of nothing", profile.Empty(compiled(t, "actor c() { }")), "")
	m := compiled(t, "func f() { } func g(a) { a; } actor c() { on a() { } }")
	wantOwn(t, "Empty", profile.Empty(m), m)
}

// P13.1: of what is no module there is no profile.
func TestEmptyOfWrongModules(t *testing.T) {
	for i, spoil := range []func(m *api.Module){
		func(m *api.Module) { m.Fns[0].Code = nil },
		func(m *api.Module) { m.Fns[0].Code[0].A = 2 },
		func(m *api.Module) { m.Fns[0].Vars = 1 },
		func(m *api.Module) { m.Consts = list(actor(-1)) },
		func(m *api.Module) { m.Roles[0].On[0].Fn = 1 },
		func(m *api.Module) { m.Roles = nil },
		func(m *api.Module) { m.Tags = make([]string, api.MaxModule+1) },
		func(m *api.Module) { m.Fns = append(m.Fns, api.Fn{}) },
	} {
		m := compiled(t, counter)
		spoil(&m)
		wantTold(t, fmt.Sprint("wrong module ", i), profile.Empty(m), "")
	}
	for _, c := range []struct{ fns, many int }{{api.MaxModule, api.MaxModule}, {api.MaxModule + 1, 0}} {
		m := api.Module{Fns: slices.Repeat([]api.Fn{{Code: []api.Ins{{Op: api.OJump}}}}, c.fns)}
		if got := len(profile.Empty(m).Fns); got != c.many {
			t.Error(c.fns, got)
		}
	}
}

// P13.2: what two profiles come to.
func TestAdd(t *testing.T) {
	for _, c := range []struct {
		what string
		a, b api.Profile
		want string
	}{
		{"none", fns(), fns(), ""},
		{"one and none", fns(seen(3, 2, 4)), fns(), "3: 2.4"},
		{"Calls together", fns(seen(3)), fns(seen(4)), "7:"},
		{"sets together", fns(seen(0, 2, 4, 8, 0)), fns(seen(0, 4, 4, 16, 32)), "0: 6.4 24.32"},
		{"all bits", fns(seen(0, 1, 128, 255, 0)), fns(seen(0, 128, 1, 0, 255)), "0: 129.129 255.255"},
		{"more functions", fns(seen(1, 2, 2)), fns(seen(2, 4, 0), seen(5, 8, 8), seen(6)), "3: 6.2 | 5: 8.8 | 6:"},
		{"more instructions", fns(seen(1, 2, 2), seen(0)), fns(seen(2, 4, 0, 8, 8), seen(0, 1, 0)), "3: 6.2 8.8 | 0: 1.0"},
		{"more of both", fns(seen(1, 2, 2, 16, 16), seen(9)), fns(seen(2, 4, 0)), "3: 6.2 16.16 | 9:"},
		{"below 0", fns(seen(-5), seen(-1), seen(7), seen(-9)), fns(seen(7), seen(-1), seen(-5)), "7: | 0: | 7: | 0:"},
		{"the least", fns(seen(math.MinInt), seen(math.MinInt)), fns(seen(math.MinInt), seen(4)), "0: | 4:"},
		{"at most 2^40", fns(seen(mostCalls-1), seen(mostCalls-1), seen(mostCalls), seen(mostCalls/2)), fns(seen(1), seen(2), seen(mostCalls), seen(mostCalls/2)), "1099511627776: | 1099511627776: | 1099511627776: | 1099511627776:"},
		{"just below", fns(seen(mostCalls-2), seen(mostCalls/2)), fns(seen(1), seen(mostCalls/2-1)), "1099511627775: | 1099511627775:"},
		{"the greatest", fns(seen(math.MaxInt), seen(math.MaxInt), seen(math.MaxInt)), fns(seen(math.MaxInt), seen(math.MinInt)), "1099511627776: | 1099511627776: | 1099511627776:"},
		{"more than 2^40 in one alone", fns(seen(mostCalls+1), seen(mostCalls+5)), fns(seen(0), seen(-5)), "1099511627776: | 1099511627776:"},
	} {
		a, b := kept(c.a), kept(c.b)
		wantTold(t, c.what, profile.Add(c.a, c.b), c.want)
		wantTold(t, c.what+", turned round", profile.Add(c.b, c.a), c.want)
		wantTold(t, c.what+", the first one", c.a, told(a))
		wantTold(t, c.what+", the second one", c.b, told(b))
	}
}

// What is too much for Bytes may be added.
func TestAddOfMany(t *testing.T) {
	a := api.Profile{Fns: make([]api.Seen, mostFns+1)}
	a.Fns[mostFns] = api.Seen{Calls: 1, Tops: make([][2]uint8, mostCode+1)}
	b := fns(seen(2, 4, 8))
	for _, sum := range []api.Profile{profile.Add(a, b), profile.Add(b, a)} {
		if len(sum.Fns) != mostFns+1 || len(sum.Fns[mostFns].Tops) != mostCode+1 || sum.Fns[mostFns].Calls != 1 || sum.Fns[0].Calls != 2 || sum.Fns[0].Tops[0] != [2]uint8{4, 8} {
			t.Error(len(sum.Fns))
		}
	}
}

// R3: a sum has memory of its own, and nothing stands in the room behind what was handed in.
func TestAddOwnMemory(t *testing.T) {
	all := []api.Profile{fns(), fns(seen(1)), fns(seen(1, 2, 2), seen(2, 4, 4, 4, 4)), fns(seen(1, 2, 2, 2, 2), seen(2), seen(3, 8, 8)), {Fns: []api.Seen{}}, fns(api.Seen{Tops: [][2]uint8{}})}
	for _, a := range all {
		for _, b := range all {
			a, b := roomy(a), roomy(b)
			roomA, roomB := room(a), room(b)
			sum := profile.Add(a, b)
			wantOwn(t, "Add", sum, a, b)
			wantOwn(t, "Add of itself", profile.Add(a, a), a)
			for i := range sum.Fns {
				clear(sum.Fns[i].Tops)
			}
			if room(a) != roomA || room(b) != roomB {
				t.Error("the spare room was changed")
			}
		}
	}
}
