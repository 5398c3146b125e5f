package code_test

import (
	"maps"
	"math/rand/v2"
	"slices"
	"strconv"
	"strings"
	"testing"

	"drover/api"
	"drover/check"
	"drover/code"
	"drover/tree"
	"drover/value"
)

// maker makes texts of programs by chance, which have no fault.
type maker struct {
	*rand.Rand
	fns, roles map[string]int // with how many parameters
	inFn       bool
	left       int // parts that it may make
}

// pick is one of a list.
func (m *maker) pick(list ...string) string {
	return list[m.IntN(len(list))]
}

// head is one of those in the map, and how many parameters it has.
func (m *maker) head(of map[string]int) (string, int) {
	name := m.pick(slices.Sorted(maps.Keys(of))...)
	return name, of[name]
}

// fresh is a name that is none of the scope's.
func (m *maker) fresh(scope []string) string {
	for {
		if name := m.pick("a", "b", "f", "c") + strconv.Itoa(m.IntN(20)); !slices.Contains(scope, name) {
			return name
		}
	}
}

// names is names that are none of the scope's, for which there is room in it.
func (m *maker) names(scope []string) (all []string) {
	many := m.IntN(4)
	if m.IntN(9) == 0 {
		many = m.IntN(31)
	}
	for range min(many, mostVars-len(scope)) {
		all = append(all, m.fresh(slices.Concat(scope, all)))
	}
	return all
}

// args is so many expressions within parentheses.
func (m *maker) args(scope []string, many, deep int) string {
	var all []string
	for range many {
		all = append(all, m.expr(scope, deep))
	}
	return "(" + strings.Join(all, ", ") + ")"
}

func (m *maker) leaf(scope []string) string {
	if len(scope) > 0 && m.IntN(2) > 0 {
		return m.pick(scope...)
	}
	return m.pick("self", "()", "true", "false", `"&&"`, `"-"`, `""`, `"1"`, strconv.Itoa(m.IntN(8)), strconv.Itoa(m.IntN(8)), strconv.Itoa(m.Int()), `"\x0`+strconv.Itoa(m.IntN(5))+`"`)
}

// expr is an expression that may stand wherever a primary does.
func (m *maker) expr(scope []string, deep int) string {
	m.left--
	if deep <= 1 || m.left <= 0 {
		return m.leaf(scope)
	}
	kid := func() string { return m.expr(scope, 1+m.IntN(deep-1)) }
	switch m.IntN(8) {
	case 0:
		name, many := m.head(m.fns)
		return "(call " + name + m.args(scope, many, deep-1) + ")"
	case 1:
		name, many := m.head(m.roles)
		return "(spawn " + name + m.args(scope, many, deep-1) + ")"
	case 2:
		return "(" + m.pick("-", "!") + kid() + ")"
	case 3:
		return m.args(scope, 2+m.IntN(3), deep-1)
	case 4:
		return kid() + "[" + kid() + "]"
	case 5:
		return "len(" + kid() + ")"
	case 6:
		return "(" + kid() + m.pick("&&", "||") + kid() + ")"
	}
	return "(" + kid() + m.pick("==", "!=", "<", "<=", ">", ">=", "+", "-", "*", "/", "%", "++") + kid() + ")"
}

// body is statements in braces that see the scope.
func (m *maker) body(scope []string, deep int) string {
	text := "{\n"
	scope = slices.Clone(scope)
	for range m.IntN(6) {
		if deep <= 1 || m.left <= 0 {
			break
		}
		if len(scope) < mostVars && m.IntN(3) == 0 {
			name := m.fresh(scope)
			text += "let " + name + " = " + m.expr(scope, deep-1) + ";\n"
			scope = append(scope, name)
			continue
		}
		text += m.stmt(scope, deep) + "\n"
	}
	return text + "}"
}

// stmt is a statement, but for let.
func (m *maker) stmt(scope []string, deep int) string {
	m.left--
	x := m.expr(scope, 1+m.IntN(deep-1))
	switch m.IntN(9) {
	case 0, 1:
		if len(scope) > 0 {
			return "set " + m.pick(scope...) + " = " + x + ";"
		}
	case 2, 3:
		text := "if (" + x + ") " + m.body(scope, deep-1)
		if m.IntN(2) == 0 {
			text += " else " + m.body(scope, deep-1)
		}
		return text
	case 4:
		return "while (" + x + ") " + m.body(scope, deep-1)
	case 5:
		return "send " + x + " " + m.fresh(nil) + m.args(scope, m.IntN(4), deep-1) + ";"
	case 6:
		if m.inFn {
			return "return " + x + ";"
		}
		return "stop;"
	case 7:
		if !m.inFn {
			name, many := m.head(m.roles)
			return "become " + name + m.args(scope, many, deep-1) + ";"
		}
	}
	return x + ";"
}

// heads is names, and how many parameters each has.
func (m *maker) heads(most int) map[string][]string {
	all := map[string][]string{}
	for range 1 + m.IntN(most) {
		all[m.fresh(nil)] = m.names(nil)
	}
	return all
}

// program is a program's text, in which functions and roles stand mixed.
func (m *maker) program() string {
	fns, roles := m.heads(5), m.heads(4)
	m.fns, m.roles = map[string]int{}, map[string]int{}
	var items []string
	for name, params := range fns {
		m.fns[name] = len(params)
	}
	for name, params := range roles {
		m.roles[name] = len(params)
	}
	m.inFn = true
	for _, name := range slices.Sorted(maps.Keys(fns)) {
		items = append(items, "func "+name+"("+strings.Join(fns[name], ", ")+") "+m.body(fns[name], 2+m.IntN(6)))
	}
	m.inFn = false
	for _, name := range slices.Sorted(maps.Keys(roles)) {
		text, tags := "actor "+name+"("+strings.Join(roles[name], ", ")+") {\n", []string{}
		for range m.IntN(4) {
			tags = append(tags, m.fresh(tags))
			params := m.names(roles[name])
			text += "on " + tags[len(tags)-1] + "(" + strings.Join(params, ", ") + ") " + m.body(slices.Concat(roles[name], params), 2+m.IntN(6)) + "\n"
		}
		items = append(items, text+"}")
	}
	m.Shuffle(len(items), func(i, k int) { items[i], items[k] = items[k], items[i] })
	return strings.Join(items, "\n")
}

// eachProgram does that with programs by chance.
func eachProgram(t *testing.T, seed uint64, many int, do func(m *maker, text string, p api.Program)) {
	t.Helper()
	r := rand.New(rand.NewPCG(11, seed))
	for range many {
		m := &maker{Rand: r, left: 5 + r.IntN(300)}
		text := m.program()
		if len(text) > 1<<15 {
			continue
		}
		p := parsed(t, text)
		if f := check.Check(p); f != (api.Fault{}) {
			t.Fatalf("%v of %s", f, text)
		}
		do(m, text, p)
	}
}

// laid is a line of the second way: an instruction that tells by name what it is about, or (of no Op) a label; to is the label that a jump leads to.
type laid struct {
	op    api.Op
	about string
	v     api.Value
	a, b  int
	to    int
}

// second is another way to compile: lines with labels first, then places.
type second struct {
	p         api.Program
	label     int
	variables int
}

// op2 is the Ops of the signs of two, as the chapter has them.
var op2 = []struct {
	sign string
	op   api.Op
}{
	{"==", 11}, {"!=", 12}, {"<", 13}, {"<=", 14}, {">", 15}, {">=", 16}, {"+", 4}, {"-", 5}, {"*", 6}, {"/", 7}, {"%", 8}, {"++", 17},
}

func (s *second) newLabel() int {
	s.label++
	return s.label
}

func (s *second) exprs(list []api.Expr, scope map[string]int) (all []laid) {
	for _, x := range list {
		all = append(all, s.expr(x, scope)...)
	}
	return all
}

func (s *second) expr(x api.Expr, scope map[string]int) []laid {
	all := s.exprs(x.Kids, scope)
	add := func(l laid) []laid { return append(all, l) }
	switch x.Kind {
	case api.EInt:
		return add(laid{op: api.OConst, v: api.Value{Kind: api.VInt, N: x.N}})
	case api.ETruth:
		return add(laid{op: api.OConst, v: api.Value{Kind: api.VBool, N: x.N}})
	case api.EText:
		return add(laid{op: api.OConst, v: api.Value{Kind: api.VBytes, S: x.S}})
	case api.EName:
		return add(laid{op: api.OLoad, a: scope[x.S]})
	case api.ESelf:
		return add(laid{op: api.OSelf})
	case api.ETuple:
		return add(laid{op: api.OTuple, a: len(x.Kids)})
	case api.EAt:
		return add(laid{op: api.OAt})
	case api.ELen:
		return add(laid{op: api.OLen})
	case api.ECall:
		return add(laid{op: api.OCall, about: x.S})
	case api.ESpawn:
		return add(laid{op: api.OSpawn, about: x.S})
	}
	if x.S == "&&" || x.S == "||" {
		to := s.newLabel()
		op := map[string]api.Op{"&&": api.OAnd, "||": api.OOr}[x.S]
		return slices.Concat(s.expr(x.Kids[0], scope), []laid{{op: op, to: to}}, s.expr(x.Kids[1], scope), []laid{{op: api.OTruth}, {to: to}})
	}
	if len(x.Kids) == 1 {
		if x.S == "!" {
			return add(laid{op: api.ONot})
		}
		return add(laid{op: api.ONeg})
	}
	for _, o := range op2 {
		if o.sign == x.S {
			return add(laid{op: o.op})
		}
	}
	panic("no sign " + x.S)
}

// stmts lays statements that see the scope, which stays as it is.
func (s *second) stmts(list []api.Stmt, scope map[string]int) []laid {
	s.variables = max(s.variables, len(scope))
	if len(list) == 0 {
		return nil
	}
	st := list[0]
	all := s.exprs(st.Exprs, scope)
	switch st.Kind {
	case api.SLet:
		scope = maps.Clone(scope)
		scope[st.S] = len(scope)
		all = append(all, laid{op: api.OStore, a: scope[st.S]})
	case api.SSet:
		all = append(all, laid{op: api.OStore, a: scope[st.S]})
	case api.SIf:
		x, y := s.newLabel(), s.newLabel()
		all = slices.Concat(all, []laid{{op: api.OUnless, to: x}}, s.stmts(st.Body, scope))
		if len(st.Else) > 0 {
			all = append(all, laid{op: api.OJump, to: y})
		}
		all = slices.Concat(all, []laid{{to: x}}, s.stmts(st.Else, scope), []laid{{to: y}})
	case api.SWhile:
		l, x := s.newLabel(), s.newLabel()
		all = slices.Concat([]laid{{to: l}}, all, []laid{{op: api.OUnless, to: x}}, s.stmts(st.Body, scope), []laid{{op: api.OJump, to: l}, {to: x}})
	case api.SSend:
		all = append(all, laid{op: api.OSend, about: st.S, b: len(st.Exprs) - 1})
	default:
		op := map[api.StmtKind]api.Op{api.SReturn: api.OReturn, api.SBecome: api.OBecome, api.SStop: api.OStop, api.SExpr: api.OPop}[st.Kind]
		all = append(all, laid{op: op, about: st.S})
	}
	return append(all, s.stmts(list[1:], scope)...)
}

// code lays a body that begins with these variables, and ends with that.
func (s *second) code(m *api.Module, b api.Body, state []string, end ...laid) {
	s.variables = 0
	scope := map[string]int{}
	for _, name := range slices.Concat(state, b.Params) {
		scope[name] = len(scope)
	}
	lines := append(s.stmts(b.Stmts, scope), end...)
	at, places := 0, map[int]int{}
	for _, l := range lines {
		if l.op == 0 {
			places[l.to] = at
		} else {
			at++
		}
	}
	f := api.Fn{Name: b.Name, Params: len(scope), Vars: s.variables}
	for _, l := range lines {
		i := api.Ins{Op: l.op, A: l.a, B: l.b}
		switch l.op {
		case 0:
			continue
		case api.OConst:
			i.A = slices.IndexFunc(m.Consts, func(v api.Value) bool { return value.Same(v, l.v) })
			if i.A < 0 {
				i.A = len(m.Consts)
				m.Consts = append(m.Consts, l.v)
			}
		case api.OSend:
			i.A = slices.Index(m.Tags, l.about)
			if i.A < 0 {
				i.A = len(m.Tags)
				m.Tags = append(m.Tags, l.about)
			}
		case api.OCall:
			i.A = slices.IndexFunc(s.p.Fns, func(f api.Body) bool { return f.Name == l.about })
		case api.OSpawn, api.OBecome:
			i.A = slices.IndexFunc(s.p.Roles, func(r api.Role) bool { return r.Name == l.about })
		}
		if l.to > 0 {
			i.A = places[l.to]
		}
		f.Code = append(f.Code, i)
	}
	m.Fns = append(m.Fns, f)
}

// compile is the second way's module.
func (s *second) compile() (m api.Module) {
	for _, f := range s.p.Fns {
		s.code(&m, f, nil, laid{op: api.OConst, v: api.Value{Kind: api.VInt}}, laid{op: api.OReturn})
	}
	for _, r := range s.p.Roles {
		part := api.Part{Name: r.Name, Params: len(r.Params)}
		for _, b := range r.On {
			part.On = append(part.On, api.On{Tag: b.Name, Params: len(b.Params), Fn: len(m.Fns)})
			s.code(&m, b, r.Params, laid{op: api.OEnd})
		}
		m.Roles = append(m.Roles, part)
	}
	return m
}

// P11.1, P11.3: programs by chance, against the second way; each Op comes often.
func TestByChance(t *testing.T) {
	seen := map[api.Op]int{}
	eachProgram(t, 1, 4000, func(_ *maker, text string, p api.Program) {
		m := compiled(t, p)
		if got, want := told(m), told((&second{p: p}).compile()); got != want {
			t.Fatalf("%s\n%s; want\n%s", text, got, want)
		}
		if told(compiled(t, p)) != told(m) {
			t.Fatalf("another module the second time: %s", text)
		}
		for _, f := range m.Fns {
			for _, i := range f.Code {
				seen[i.Op]++
			}
		}
	})
	for op := range api.OEnd {
		if seen[op+1] < 100 {
			t.Errorf("%s came only %d times", code.Show(api.Ins{Op: op + 1}), seen[op+1])
		}
	}
}

// P11.1: what is shown has the same module as what it shows.
func TestShownText(t *testing.T) {
	eachProgram(t, 2, 1000, func(_ *maker, text string, p api.Program) {
		again, e := tree.Show(p)
		if e != api.OK {
			return
		}
		if a, b := told(compiled(t, p)), told(compiled(t, parsed(t, again))); a != b {
			t.Fatalf("%s\n%s\n%s", text, a, b)
		}
	})
}

// P11.1: a program by chance, spoilt at one place, has check's fault, or the second way's module.
func TestSpoiltProgram(t *testing.T) {
	faults := map[api.Errno]int{}
	eachProgram(t, 3, 4000, func(m *maker, text string, _ api.Program) {
		words := strings.Split(text, " ")
		i, k := m.IntN(len(words)), m.IntN(len(words))
		words[i] = words[k]
		p, f := tree.Parse(strings.Join(words, " "))
		if f != (api.Fault{}) {
			return
		}
		mod, got := code.Compile(p)
		want := check.Check(p)
		faults[want.Err]++
		if got != want || want.Err != api.OK && told(mod) != "" || want.Err == api.OK && told(mod) != told((&second{p: p}).compile()) {
			t.Fatalf("Compile = %v; want %v of %s", got, want, strings.Join(words, " "))
		}
	})
	for _, e := range []api.Errno{api.OK, api.ErrName, api.ErrTwice} {
		if faults[e] < 20 {
			t.Errorf("the error %d came only %d times", e, faults[e])
		}
	}
}

// asker tells all that is wrong with a module: another way to check it.
type asker struct {
	m      api.Module
	owners map[int]int // how many On have a function
	all    []string
}

func (a *asker) ask(fine bool, why ...string) {
	if !fine {
		a.all = append(a.all, strings.Join(why, ""))
	}
}

func (a *asker) ins(i api.Ins, f api.Fn, body bool) {
	word, _, _ := strings.Cut(code.Show(i), " ")
	mostA, mostB := 0, 0
	switch i.Op {
	case api.OConst:
		mostA = len(a.m.Consts) - 1
	case api.OLoad, api.OStore:
		mostA = f.Vars - 1
	case api.OTuple:
		mostA = mostArgs
	case api.OCall:
		mostA = len(a.m.Fns) - 1
		a.ask(a.owners[i.A] == 0, "call of a body")
	case api.OSpawn, api.OBecome:
		mostA = len(a.m.Roles) - 1
	case api.OSend:
		mostA, mostB = len(a.m.Tags)-1, mostArgs
	case api.OJump, api.OUnless, api.OAnd, api.OOr:
		mostA = len(f.Code) - 1
	}
	a.ask(0 <= i.A && i.A <= mostA, word, " a")
	a.ask(0 <= i.B && i.B <= mostB, word, " b")
	a.ask(i.Op >= 1 && i.Op <= 34, "no op")
	if i.Op == api.OReturn {
		a.ask(!body, word, " in a body")
	} else if i.Op == api.OEnd || i.Op == api.OStop || i.Op == api.OBecome {
		a.ask(body, word, " in no body")
	}
}

// wrong is all that is wrong with m.
func wrong(m api.Module) []string {
	a := &asker{m: m, owners: map[int]int{}}
	for _, r := range m.Roles {
		for _, on := range r.On {
			a.owners[on.Fn]++
		}
	}
	for _, v := range m.Consts {
		a.ask(value.Right(v), "const")
	}
	for n, f := range m.Fns {
		a.ask(0 <= f.Params, "fn params")
		a.ask(f.Params <= f.Vars, "fn vars")
		a.ask(f.Vars <= mostVars, "fn room")
		a.ask(len(f.Code) > 0, "no code")
		a.ask(a.owners[n] < 2, "two owners")
		for _, i := range f.Code {
			a.ins(i, f, a.owners[n] > 0)
		}
		if len(f.Code) > 0 {
			a.ask(slices.Contains([]api.Op{api.OJump, api.OReturn, api.OEnd, api.OStop, api.OBecome}, f.Code[len(f.Code)-1].Op), "last")
		}
	}
	for _, r := range m.Roles {
		a.ask(0 <= r.Params && r.Params <= mostVars, "role params")
		for i, on := range r.On {
			a.ask(0 <= on.Params && on.Params <= mostVars, "on params")
			a.ask(0 <= on.Fn && on.Fn < len(m.Fns), "on fn")
			if on.Fn >= 0 && on.Fn < len(m.Fns) {
				a.ask(m.Fns[on.Fn].Params == r.Params+on.Params, "on sum")
			}
			a.ask(!slices.ContainsFunc(r.On[:i], func(o api.On) bool { return o.Tag == on.Tag }), "on tag")
		}
	}
	return a.all
}

// near is a number that is n, or near to it, or one that stands at an edge.
func (m *maker) near(n int) int {
	edges := []int{n - 1, n + 1, n, 0, -1, 1, mostVars, mostVars + 1, mostArgs, mostArgs + 1, m.IntN(40), 1 << 40, -1 << 62}
	return edges[m.IntN(len(edges))]
}

// spoil changes one thing of a module, which may be right behind that.
func (m *maker) spoil(mod *api.Module) {
	f := &mod.Fns[m.IntN(len(mod.Fns))]
	r := &mod.Roles[m.IntN(len(mod.Roles))]
	i := &f.Code[m.IntN(len(f.Code))]
	if m.IntN(4) == 0 {
		i = &f.Code[len(f.Code)-1]
	}
	switch m.IntN(16) {
	case 0:
		i.Op = api.Op(m.IntN(37))
	case 1, 2, 3:
		i.A = m.near(i.A)
	case 4:
		// Of sends there are few.
		if at := slices.IndexFunc(f.Code, func(i api.Ins) bool { return i.Op == api.OSend }); at >= 0 {
			i = &f.Code[at]
		}
		i.B = m.near(i.B)
	case 5:
		f.Params = m.near(f.Params)
	case 6:
		f.Vars = m.near(f.Vars)
	case 7:
		f.Code = f.Code[:len(f.Code)-1]
	case 8:
		f.Code = append(f.Code, api.Ins{Op: api.Op(m.IntN(35))})
	case 9:
		r.Params = m.near(r.Params)
	case 10:
		mod.Consts = append(mod.Consts, api.Value{Kind: api.Kind(m.IntN(7)), N: int64(m.near(0))})
	case 11:
		mod.Consts = mod.Consts[:m.IntN(len(mod.Consts)+1)]
		mod.Tags = mod.Tags[:m.IntN(len(mod.Tags)+1)]
	default:
		m.spoilOn(mod, r)
	}
}

// spoilOn changes one thing of what a role does at messages.
func (m *maker) spoilOn(mod *api.Module, r *api.Part) {
	if len(r.On) == 0 {
		r.On = append(r.On, api.On{Tag: "a", Fn: m.IntN(len(mod.Fns))})
		return
	}
	on := &r.On[m.IntN(len(r.On))]
	switch m.IntN(6) {
	case 0:
		on.Fn = m.IntN(len(mod.Fns))
	case 1:
		on.Fn = m.near(len(mod.Fns))
	case 2:
		on.Params = m.near(on.Params)
	case 3:
		on.Tag = r.On[m.IntN(len(r.On))].Tag
	case 4:
		r.On = r.On[1:]
	case 5:
		r.On = append(r.On, api.On{Tag: "new", Params: on.Params, Fn: m.IntN(len(mod.Fns))})
	}
}

// P11.2: modules by chance that are spoilt at some places, against the second way to check them.
func TestSpoiltModule(t *testing.T) {
	seen := map[string]int{}
	eachProgram(t, 4, 3000, func(m *maker, _ string, p api.Program) {
		for range 8 {
			mod := compiled(t, p)
			for range 1 + m.IntN(2) {
				if !slices.ContainsFunc(mod.Fns, func(f api.Fn) bool { return len(f.Code) == 0 }) {
					m.spoil(&mod)
				}
			}
			all := wrong(mod)
			want := api.ErrCode
			if len(all) == 0 {
				want, all = api.OK, []string{"right"}
			}
			if e := code.Check(mod); e != want {
				t.Fatalf("Check = %d; want %d, as %v of\n%s", e, want, all, told(mod))
			}
			for _, why := range all {
				seen[why]++
			}
		}
	})
	for _, why := range []string{
		"right", "const", "fn params", "fn vars", "no code", "last", "role params", "on params", "on fn", "on sum", "on tag", "two owners", "no op", "const a", "load a", "store a", "add a", "tuple a", "self b",
		"call a", "call of a body", "spawn a", "send a", "send b", "become a", "become b", "jump a", "jump b", "unless a", "and a", "or a", "return a", "end b", "return in a body", "end in no body", "stop in no body", "become in no body",
	} {
		if seen[why] < 5 {
			t.Errorf("%q came only %d times", why, seen[why])
		}
	}
}
