package code_test

import (
	"fmt"
	"math"
	"reflect"
	"slices"
	"strconv"
	"strings"
	"testing"

	"drover/api"
	"drover/code"
)

// The chapter's limits.
const (
	mostModule = 4096
	mostVars   = 30
	mostCode   = 16384
	mostArgs   = 255
)

// wantCheck wants a module to be right, or not.
func wantCheck(t *testing.T, what string, m api.Module, right bool) {
	t.Helper()
	e := api.ErrCode
	if right {
		e = api.OK
	}
	if got := code.Check(m); got != e {
		t.Errorf("%s: Check = %d; want %d", what, got, e)
	}
}

// full is a right module: two functions (0 of one parameter, 3), two roles of three bodies (1, 2, 4), three constants, two tags.
func full() api.Module {
	fn := func(params, vars int, ops ...api.Ins) api.Fn { return api.Fn{Params: params, Vars: vars, Code: ops} }
	back, end := []api.Ins{{Op: api.OSelf}, {Op: api.OReturn}}, api.Ins{Op: api.OEnd}
	return api.Module{
		Consts: []api.Value{integer(5), {Kind: api.VTuple, L: []api.Value{truth(1), {Kind: api.VActor, N: 3}}}, integer(5)},
		Tags:   []string{"go", "go"},
		Fns:    []api.Fn{fn(1, 3, back...), fn(2, 2, end), fn(1, 1, end), fn(0, 0, back...), fn(3, 4, end)},
		Roles: []api.Part{
			{Name: "c", Params: 1, On: []api.On{{Tag: "x", Params: 1, Fn: 1}, {Tag: "y", Fn: 2}}},
			{Name: "c", Params: 3, On: []api.On{{Tag: "x", Fn: 4}}},
		},
	}
}

// changed is full, but for what do does.
func changed(do func(m *api.Module)) api.Module {
	m := full()
	do(&m)
	return m
}

// P11.2: how many constants, tags, functions and roles there may be.
func TestHowMany(t *testing.T) {
	back := []api.Ins{{Op: api.OConst}, {Op: api.OReturn}}
	for _, n := range []int{0, 1, mostModule - 1, mostModule, mostModule + 1, 2 * mostModule} {
		right := n <= mostModule
		m := api.Module{Tags: make([]string, n)}
		wantCheck(t, fmt.Sprint(n, " tags"), m, right)
		m = api.Module{Roles: make([]api.Part, n)}
		wantCheck(t, fmt.Sprint(n, " roles"), m, right)
		m = api.Module{Consts: make([]api.Value, n)}
		for i := range n {
			m.Consts[i] = integer(int64(i))
		}
		wantCheck(t, fmt.Sprint(n, " consts"), m, right)
		m = api.Module{Consts: make([]api.Value, 1), Fns: make([]api.Fn, n)}
		m.Consts[0] = integer(0)
		for i := range n {
			m.Fns[i].Code = back
		}
		wantCheck(t, fmt.Sprint(n, " fns"), m, right)
	}
	all := api.Module{Consts: make([]api.Value, mostModule), Tags: make([]string, mostModule), Fns: make([]api.Fn, mostModule), Roles: make([]api.Part, mostModule)}
	for i := range mostModule {
		all.Consts[i] = integer(0)
		all.Fns[i].Code = []api.Ins{{Op: api.OConst, A: i}, {Op: api.OSend, A: i}, {Op: api.OSpawn, A: i}, {Op: api.OEnd}}
		all.Roles[i] = api.Part{Name: "c", On: []api.On{{Tag: "x", Fn: mostModule - 1 - i}}}
	}
	wantCheck(t, "all", all, true)
	one := all
	one.Roles = []api.Part{{}}
	for i := range mostModule {
		all.Fns[i].Code = []api.Ins{{Op: api.OEnd}}
		one.Roles[0].On = append(one.Roles[0].On, api.On{Tag: strconv.Itoa(i), Fn: i})
	}
	wantCheck(t, "one role of all bodies", one, true)
	one.Roles[0].On = append(one.Roles[0].On, api.On{Tag: "more"})
	wantCheck(t, "one body more", one, false)
}

// P11.2: each constant is right.
func TestRightConsts(t *testing.T) {
	long := strings.Repeat("x", 4096)
	tuple := func(parts ...api.Value) api.Value { return api.Value{Kind: api.VTuple, L: parts} }
	deep := integer(1)
	for range 15 {
		deep = tuple(deep)
	}
	endless := []api.Value{{Kind: api.VTuple}}
	endless[0].L = endless
	for i, c := range []struct {
		v     api.Value
		right bool
	}{
		{integer(math.MinInt64), true}, {truth(1), true}, {bytesOf(long), true}, {tuple(), true}, {tuple(make255()...), true}, {deep, true}, {api.Value{Kind: api.VActor, N: math.MaxInt64}, true},
		{api.Value{}, false}, {api.Value{Kind: 6}, false}, {truth(2), false}, {bytesOf(long + "x"), false}, {api.Value{Kind: api.VActor, N: -1}, false}, {tuple(deep), false},
		{tuple(append(make255(), integer(0))...), false}, {api.Value{Kind: api.VInt, S: "x"}, false}, {api.Value{Kind: api.VBytes, N: 1}, false}, {tuple(integer(1), truth(2)), false}, {endless[0], false},
	} {
		for place := range 3 {
			wantCheck(t, fmt.Sprint("constant ", i, " at ", place), changed(func(m *api.Module) { m.Consts[place] = c.v }), c.right)
		}
		wantCheck(t, fmt.Sprint("constant ", i, " alone"), api.Module{Consts: []api.Value{c.v}}, c.right)
	}
}

// make255 is as many values as may stand in a tuple beside itself.
func make255() []api.Value {
	all := make([]api.Value, 255)
	for i := range all {
		all[i] = integer(0)
	}
	return all
}

// P11.2: 0 <= Params <= Vars <= MaxVars.
func TestParamsAndVars(t *testing.T) {
	numbers := []int{math.MinInt, -31, -1, 0, 1, 2, 29, 30, 31, 60, math.MaxInt}
	for _, params := range numbers {
		for _, vars := range numbers {
			right := params >= 0 && params <= vars && vars <= mostVars
			m := changed(func(m *api.Module) { m.Fns[3].Params, m.Fns[3].Vars = params, vars })
			wantCheck(t, fmt.Sprint("func of ", params, " ", vars), m, right)
			m = changed(func(m *api.Module) {
				m.Fns[4].Params, m.Fns[4].Vars = params, vars
				m.Roles[1].Params = params
			})
			wantCheck(t, fmt.Sprint("body of ", params, " ", vars), m, right)
		}
	}
}

// P11.2: a function has 1 to MaxCode instructions, of which the last one leads nowhere else.
func TestHowLong(t *testing.T) {
	for _, n := range []int{0, 1, 2, mostCode - 1, mostCode, mostCode + 1} {
		long := make([]api.Ins, n)
		for i := range long {
			long[i] = api.Ins{Op: api.OJump, A: n - 1 - i}
		}
		wantCheck(t, fmt.Sprint("func of ", n), changed(func(m *api.Module) { m.Fns[3].Code = long }), n >= 1 && n <= mostCode)
		wantCheck(t, fmt.Sprint("body of ", n), changed(func(m *api.Module) { m.Fns[4].Code = long }), n >= 1 && n <= mostCode)
	}
	lasts := map[api.Op]int{api.OJump: 3, api.OReturn: 1, api.OEnd: 2, api.OStop: 2, api.OBecome: 2} // of functions 1, of bodies 2
	for op := range 256 {
		for _, ahead := range [][]api.Ins{nil, {{Op: api.OSelf}}, {{Op: api.OJump}, {Op: api.OPop}}} {
			last := append(ahead[:len(ahead):len(ahead)], api.Ins{Op: api.Op(op)})
			fn, body := changed(func(m *api.Module) { m.Fns[3].Code = last }), changed(func(m *api.Module) { m.Fns[4].Code = last })
			wantCheck(t, fmt.Sprint("func that ends with ", op), fn, lasts[api.Op(op)]&1 != 0)
			wantCheck(t, fmt.Sprint("body that ends with ", op), body, lasts[api.Op(op)]&2 != 0)
		}
	}
}

// P11.2: what an instruction of each Op may have, in a function and in a body.
func TestInstructions(t *testing.T) {
	upTo := func(many int) map[int]bool {
		all := map[int]bool{}
		for i := range many {
			all[i] = true
		}
		return all
	}
	// What A and B may be in the function 0 of full, and in its body 4, of four instructions each: what is not named is 0.
	type may struct{ a, b map[int]bool }
	common := map[api.Op]may{
		api.OConst: {a: upTo(3)}, api.OTuple: {a: upTo(256)}, api.OCall: {a: map[int]bool{0: true, 3: true}}, api.OSpawn: {a: upTo(2)}, api.OSend: {a: upTo(2), b: upTo(256)},
		api.OJump: {a: upTo(4)}, api.OUnless: {a: upTo(4)}, api.OAnd: {a: upTo(4)}, api.OOr: {a: upTo(4)},
	}
	inFn := map[api.Op]may{api.OLoad: {a: upTo(3)}, api.OStore: {a: upTo(3)}, api.OReturn: {}}
	inBody := map[api.Op]may{api.OLoad: {a: upTo(4)}, api.OStore: {a: upTo(4)}, api.OEnd: {}, api.OStop: {}, api.OBecome: {a: upTo(2)}}
	for _, op := range []api.Op{api.OAdd, api.OSub, api.OMul, api.ODiv, api.OMod, api.ONeg, api.ONot, api.OEq, api.ONe, api.OLt, api.OLe, api.OGt, api.OGe, api.OCat, api.OAt, api.OLen, api.OSelf, api.OTruth, api.OPop} {
		common[op] = may{}
	}
	for op, ab := range common {
		inFn[op], inBody[op] = ab, ab
	}
	numbers := []int{math.MinInt, -256, -1, 0, 1, 2, 3, 4, 5, 6, 29, 30, 31, 254, 255, 256, 257, 511, 512, 65536, 1 << 32, math.MaxInt}
	holds := func(set map[int]bool, n int) bool { return set[n] || set == nil && n == 0 }
	for _, c := range []struct {
		fn   int
		ops  map[api.Op]may
		last api.Op
	}{{0, inFn, api.OReturn}, {4, inBody, api.OEnd}} {
		for op := range 256 {
			for _, a := range numbers {
				for _, b := range numbers {
					ab, ok := c.ops[api.Op(op)]
					right := ok && holds(ab.a, a) && holds(ab.b, b)
					for place := range 3 {
						m := changed(func(m *api.Module) {
							m.Fns[c.fn].Code = []api.Ins{{Op: api.OSelf}, {Op: api.OSelf}, {Op: api.OSelf}, {Op: c.last}}
							m.Fns[c.fn].Code[place] = api.Ins{Op: api.Op(op), A: a, B: b}
						})
						wantCheck(t, fmt.Sprint("fn ", c.fn, ": ", op, " ", a, " ", b, " at ", place), m, right)
					}
				}
			}
		}
	}
	// Where there is nothing of its kind, there is no place.
	for _, op := range []api.Op{api.OConst, api.OLoad, api.OStore, api.OSpawn, api.OSend} {
		wantCheck(t, fmt.Sprint("no place for ", op), api.Module{Fns: []api.Fn{{Code: []api.Ins{{Op: op}, {Op: api.OReturn}}}}}, false)
	}
}

// P11.2: what a role, and each of its On, may have.
func TestRoles(t *testing.T) {
	for _, n := range []int{math.MinInt, -1, 0, 1, 30, 31, math.MaxInt} {
		wantCheck(t, fmt.Sprint("a role of ", n), api.Module{Roles: []api.Part{{}, {Params: n}}}, n >= 0 && n <= mostVars)
	}
	// Params of the role, of the On, of the function.
	for _, c := range []struct {
		role, on, fn int
		right        bool
	}{
		{0, 0, 0, true}, {1, 0, 1, true}, {0, 1, 1, true}, {2, 3, 5, true}, {30, 0, 30, true}, {0, 30, 30, true}, {15, 15, 30, true}, {1, 29, 30, true},
		{1, 1, 1, false}, {1, 0, 0, false}, {0, 0, 1, false}, {2, 3, 4, false}, {2, 3, 6, false}, {2, 3, 2, false}, {2, 3, 3, false}, {30, 1, 31, false}, {30, 1, 30, false}, {15, 16, 31, false}, {30, 30, 60, false},
		{31, 0, 31, false}, {31, -1, 30, false}, {-1, 31, 30, false}, {0, 31, 31, false}, {-1, 1, 0, false}, {1, -1, 0, false}, {-1, 2, 1, false}, {2, -1, 1, false}, {-1, 0, -1, false}, {0, -1, -1, false},
		{math.MinInt, math.MinInt, 0, false}, {math.MaxInt, math.MaxInt, -2, false}, {1, math.MaxInt, math.MinInt, false},
	} {
		m := api.Module{Fns: []api.Fn{{Params: c.fn, Vars: max(c.fn, 0), Code: []api.Ins{{Op: api.OEnd}}}}, Roles: []api.Part{{Params: c.role, On: []api.On{{Params: c.on}}}}}
		wantCheck(t, fmt.Sprint("params ", c), m, c.right)
	}
	for _, c := range []struct {
		what  string
		do    func(m *api.Module)
		right bool
	}{
		{"as it is", func(m *api.Module) {}, true},
		{"two roles of one name", func(m *api.Module) { m.Roles[1].Name = "c" }, true},
		{"no names", func(m *api.Module) { m.Roles[0].Name, m.Roles[0].On[0].Tag, m.Tags[1] = "", "", "" }, true},
		{"a tag that is none of the module's", func(m *api.Module) { m.Roles[0].On[0].Tag = "z" }, true},
		{"a tag of another role's", func(m *api.Module) { m.Roles[1].On[0].Tag = "y" }, true},
		{"one tag twice", func(m *api.Module) { m.Roles[0].On[0].Tag = "y" }, false},
		{"no tag twice", func(m *api.Module) { m.Roles[0].On[0].Tag, m.Roles[0].On[1].Tag = "", "" }, false},
		{"Fn below 0", func(m *api.Module) { m.Roles[0].On[0].Fn = -1 }, false},
		{"Fn past the end", func(m *api.Module) { m.Roles[0].On[0].Fn = 5 }, false},
		{"Fn far below", func(m *api.Module) { m.Roles[0].On[0].Fn = math.MinInt }, false},
		{"Fn far above", func(m *api.Module) { m.Roles[0].On[0].Fn = math.MaxInt }, false},
		{"two of one Fn", func(m *api.Module) {
			m.Roles[0].On[1] = api.On{Tag: "y", Params: 1, Fn: 1}
			m.Fns[2].Code = m.Fns[0].Code
		}, false},
		{"two roles of one Fn", func(m *api.Module) {
			m.Roles[1] = api.Part{Params: 2, On: []api.On{{Fn: 1}}}
			m.Fns[4].Code = m.Fns[0].Code
		}, false},
		{"bodies changed", func(m *api.Module) { m.Roles[0].On[0], m.Roles[0].On[1] = m.Roles[0].On[1], m.Roles[0].On[0] }, true},
		{"roles changed", func(m *api.Module) { m.Roles[0], m.Roles[1] = m.Roles[1], m.Roles[0] }, true},
		{"a body that is none", func(m *api.Module) { m.Roles[0].On = m.Roles[0].On[1:] }, false},
		{"a body that is none, with a function's end", func(m *api.Module) { m.Roles[0].On = m.Roles[0].On[1:]; m.Fns[1].Code = m.Fns[0].Code }, true},
		{"a function that is a body", func(m *api.Module) { m.Roles[1].On = append(m.Roles[1].On, api.On{Tag: "z", Params: -3, Fn: 3}) }, false},
		{"a function that is a body, of a role of none", func(m *api.Module) { m.Roles = append(m.Roles, api.Part{On: []api.On{{Fn: 3}}}) }, false},
		{"with a body's end", func(m *api.Module) {
			m.Roles = append(m.Roles, api.Part{On: []api.On{{Fn: 3}}})
			m.Fns[3].Code = m.Fns[4].Code
		}, true},
		{"a call of what is a body of a later role", func(m *api.Module) { m.Fns[0].Code = []api.Ins{{Op: api.OCall, A: 4}, {Op: api.OReturn}} }, false},
		{"a call in a body of itself", func(m *api.Module) { m.Fns[4].Code = []api.Ins{{Op: api.OCall, A: 4}, {Op: api.OEnd}} }, false},
		{"a call in a body of another role's", func(m *api.Module) { m.Fns[4].Code = []api.Ins{{Op: api.OCall, A: 1}, {Op: api.OEnd}} }, false},
		{"a call in a body of a function", func(m *api.Module) { m.Fns[4].Code = []api.Ins{{Op: api.OCall, A: 3}, {Op: api.OEnd}} }, true},
		{"a role of nothing", func(m *api.Module) { m.Roles = append(m.Roles, api.Part{Params: 30}) }, true},
	} {
		wantCheck(t, c.what, changed(c.do), c.right)
	}
}

// P11.2: what is wrong is so wherever it stands, and however much is right.
func TestAnywhere(t *testing.T) {
	for fn := range 5 {
		for _, bad := range []api.Fn{{}, {Params: 1}, {Vars: 31}, {Code: []api.Ins{{Op: api.OSelf}}}, {Code: []api.Ins{{}, {Op: api.OJump}}}, {Code: []api.Ins{{Op: api.OReturn, B: 1}}}, {Code: []api.Ins{{Op: api.OEnd}, {Op: api.OReturn}}}} {
			wantCheck(t, fmt.Sprint(fn, " is ", bad), changed(func(m *api.Module) { m.Fns[fn] = bad }), false)
		}
	}
	for role := range 2 {
		for _, bad := range []api.Part{{Params: -1}, {On: []api.On{{Fn: 9}}}, {On: []api.On{{Params: 31}}}, {On: []api.On{{Tag: "a", Fn: 3}, {Tag: "a", Fn: 3}}}} {
			wantCheck(t, fmt.Sprint(role, " is ", bad), changed(func(m *api.Module) { m.Roles[role] = bad }), false)
		}
	}
}

// P11.2: the word of each Op, and A and B, whatever they are.
func TestShow(t *testing.T) {
	words := strings.Fields("const load store add sub mul div mod neg not eq ne lt le gt ge cat at len tuple self call spawn send become stop jump unless and or truth pop return end")
	if len(words) != 34 {
		t.Fatal(len(words))
	}
	for op := range 256 {
		word := "op" + strconv.Itoa(op)
		if op >= 1 && op <= 34 {
			word = words[op-1]
		}
		for _, c := range []struct {
			a, b int
			want string
		}{{0, 0, " 0 0"}, {1, 2, " 1 2"}, {255, 16384, " 255 16384"}, {-1, -20, " -1 -20"}, {math.MinInt64, math.MaxInt64, " -9223372036854775808 9223372036854775807"}} {
			if got := code.Show(api.Ins{Op: api.Op(op), A: c.a, B: c.b}); got != word+c.want {
				t.Errorf("Show(%d %d %d) = %q; want %q", op, c.a, c.b, got, word+c.want)
			}
		}
	}
	if code.Show(api.Ins{Op: api.OSend, B: 1}) != "send 0 1" || code.Show(api.Ins{}) != "op0 0 0" || code.Show(api.Ins{Op: 35}) != "op35 0 0" {
		t.Error("send, 0, 35")
	}
}

// R3: Check changes nothing of what is handed in, nor the spare room of its lists.
func TestCheckKeepsOut(t *testing.T) {
	made := func() api.Module {
		m := full()
		m.Consts, m.Tags, m.Fns, m.Roles = slices.Grow(m.Consts, 3), slices.Grow(m.Tags, 3), slices.Grow(m.Fns, 3), slices.Grow(m.Roles, 3)
		for i := range m.Fns {
			m.Fns[i].Code = slices.Grow(m.Fns[i].Code, 3)
		}
		for i := range m.Roles {
			m.Roles[i].On = slices.Grow(m.Roles[i].On, 3)
		}
		fillSpare(&m)
		return m
	}
	// whole is a module with all that is in its lists' spare room.
	whole := func(m api.Module) []any {
		all := []any{m.Consts[:len(m.Consts)+3], m.Tags[:len(m.Tags)+3], m.Fns[:len(m.Fns)+3], m.Roles[:len(m.Roles)+3]}
		for _, f := range m.Fns {
			all = append(all, f.Code[:len(f.Code)+3])
		}
		for _, r := range m.Roles {
			all = append(all, r.On[:len(r.On)+3])
		}
		return all
	}
	m := made()
	for range 2 {
		if e := code.Check(m); e != api.OK || !reflect.DeepEqual(whole(m), whole(made())) {
			t.Error(e, told(m))
		}
	}
}
