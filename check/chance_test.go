package check_test

import (
	"fmt"
	"math/rand/v2"
	"reflect"
	"slices"
	"strings"
	"testing"

	"drover/api"
	"drover/check"
	"drover/tree"
)

// sorts is in what ways a maker goes astray.
var sorts = []string{"item", "param", "let", "room", "name", "set", "place", "of none", "arity"}

// maker makes right programs by chance, which have a fault only where it goes astray.
type maker struct {
	*rand.Rand
	astray     int    // it goes astray once in so many times; 0: never
	sort       string // in this way alone; "": in all of them
	fns, roles map[string]int
	inFn       bool
	left       int // parts that it may make
}

// errs tells whether it goes astray here, in that way.
func (m *maker) errs(sort string) bool {
	return m.astray > 0 && (m.sort == "" || m.sort == sort) && m.IntN(m.astray) == 0
}

// any is one of the names that are used at all: more than what is asked for at once.
func (m *maker) any() string {
	return fmt.Sprint([]string{"a", "b", "f", "c"}[m.IntN(4)], m.IntN(20))
}

// fresh is a name, for something of that sort, that is none of those taken; more than so many there may not be.
func (m *maker) fresh(sort string, taken []string, most int) (string, bool) {
	switch {
	case len(taken) > 0 && m.errs(sort):
		return taken[m.IntN(len(taken))], true
	case len(taken) >= most && !m.errs("room"):
		return "", false
	}
	for {
		if name := m.any(); !slices.Contains(taken, name) {
			return name, true
		}
	}
}

// params is names that stand beside those taken.
func (m *maker) params(taken []string, most int) (all []string) {
	many := m.IntN(4)
	if m.IntN(6) == 0 {
		many = mostVars - m.IntN(5)
	}
	for range many {
		name, ok := m.fresh("param", slices.Concat(taken, all), most)
		if !ok || len(all) == mostVars {
			break
		}
		all = append(all, name)
	}
	return all
}

// pick is one of those in the map, and how many values it has.
func (m *maker) pick(of map[string]int) (string, int) {
	var all []string
	for name := range of {
		all = append(all, name)
	}
	slices.Sort(all)
	name := all[m.IntN(len(all))]
	many := of[name]
	if m.errs("of none") {
		name = m.any()
	}
	if m.errs("arity") {
		many += 1 - 2*m.IntN(2)
	}
	return name, max(many, 0)
}

func (m *maker) expr(scope []string, deep int) api.Expr {
	m.left--
	if deep <= 1 || m.left <= 0 {
		switch {
		case m.errs("name"):
			return api.Expr{Kind: api.EName, S: m.any()}
		case len(scope) > 0 && m.IntN(3) > 0:
			return api.Expr{Kind: api.EName, S: scope[m.IntN(len(scope))]}
		}
		return []api.Expr{one(), {Kind: api.ETruth}, {Kind: api.EText, S: "a1"}, {Kind: api.ESelf}, {Kind: api.ETuple}}[m.IntN(5)]
	}
	kids := func(many int) (all []api.Expr) {
		for range many {
			all = append(all, m.expr(scope, 1+m.IntN(deep-1)))
		}
		return all
	}
	switch m.IntN(8) {
	case 0, 1:
		name, many := m.pick(m.fns)
		return api.Expr{Kind: api.ECall, S: name, Kids: kids(many)}
	case 2, 3:
		name, many := m.pick(m.roles)
		return api.Expr{Kind: api.ESpawn, S: name, Kids: kids(many)}
	case 4:
		return api.Expr{Kind: api.EOp, S: "!", Kids: kids(1)}
	case 5:
		return api.Expr{Kind: api.ETuple, Kids: kids(2 + m.IntN(3))}
	case 6:
		return api.Expr{Kind: api.EAt, Kids: kids(2)}
	}
	return api.Expr{Kind: api.EOp, S: "+", Kids: kids(2)}
}

// stmts is statements that see the scope.
func (m *maker) stmts(scope []string, deep int) (all []api.Stmt) {
	if deep <= 1 {
		return nil
	}
	for range m.IntN(6) {
		if m.left <= 0 {
			break
		}
		s := m.stmt(scope, deep)
		if s.Kind == api.SLet && !slices.Contains(scope, s.S) {
			scope = append(slices.Clone(scope), s.S)
		}
		all = append(all, s)
	}
	return all
}

// stmt is a statement that sees the scope.
func (m *maker) stmt(scope []string, deep int) api.Stmt {
	m.left--
	x := []api.Expr{m.expr(scope, 1+m.IntN(deep-1))}
	inFn := m.inFn != m.errs("place")
	switch m.IntN(10) {
	case 0, 1, 2:
		if name, ok := m.fresh("let", scope, mostVars); ok {
			return api.Stmt{Kind: api.SLet, S: name, Exprs: x}
		}
	case 3:
		if m.errs("set") {
			return api.Stmt{Kind: api.SSet, S: m.any(), Exprs: x}
		} else if len(scope) > 0 {
			return api.Stmt{Kind: api.SSet, S: scope[m.IntN(len(scope))], Exprs: x}
		}
	case 4:
		return api.Stmt{Kind: api.SIf, Exprs: x, Body: m.stmts(scope, deep-1), Else: m.stmts(scope, deep-1)}
	case 5:
		return api.Stmt{Kind: api.SWhile, Exprs: x, Body: m.stmts(scope, deep-1)}
	case 6:
		return api.Stmt{Kind: api.SSend, S: m.any(), Exprs: append(x, x...)}
	case 7:
		if inFn {
			return api.Stmt{Kind: api.SReturn, Exprs: x}
		}
		return api.Stmt{Kind: api.SStop}
	case 8:
		if !inFn {
			name, many := m.pick(m.roles)
			s := api.Stmt{Kind: api.SBecome, S: name}
			for range many {
				s.Exprs = append(s.Exprs, m.expr(scope, 1+m.IntN(deep-1)))
			}
			return s
		}
	}
	return api.Stmt{Kind: api.SExpr, Exprs: x}
}

// heads is how often a name is made, and with how many parameters.
func (m *maker) heads(most int) (heads []api.Body) {
	var taken []string
	for range 1 + m.IntN(most) {
		name, _ := m.fresh("item", taken, mostItems)
		heads = append(heads, api.Body{Name: name, Params: m.params(nil, mostVars)})
		taken = append(taken, name)
	}
	return heads
}

// program is a program, each line of which is another one.
func (m *maker) program() api.Program {
	var p api.Program
	m.fns, m.roles = map[string]int{}, map[string]int{}
	p.Fns = m.heads(5)
	for _, f := range p.Fns {
		m.fns[f.Name] = len(f.Params)
	}
	for _, r := range m.heads(4) {
		m.roles[r.Name] = len(r.Params)
		p.Roles = append(p.Roles, api.Role{Name: r.Name, Params: r.Params})
	}
	m.inFn = true
	for i := range p.Fns {
		p.Fns[i].Stmts = m.stmts(p.Fns[i].Params, 2+m.IntN(7))
	}
	m.inFn = false
	for i := range p.Roles {
		r := &p.Roles[i]
		var tags []string
		for range m.IntN(4) {
			tag, _ := m.fresh("item", tags, mostItems)
			tags = append(tags, tag)
			params := m.params(r.Params, mostVars-len(r.Params))
			if m.errs("room") {
				params = m.params(r.Params, 2*mostVars)
			}
			r.On = append(r.On, api.Body{Name: tag, Params: params, Stmts: m.stmts(slices.Concat(r.Params, params), 2+m.IntN(7))})
		}
	}
	m.lines(p)
	return p
}

// lines lays lines, each another one, in no order.
func (m *maker) lines(p api.Program) {
	places := lineOf(p)
	for i, n := range m.Perm(len(places)) {
		*places[i] = n - 3
	}
}

// eachStmt does that with each statement of a list, and with those within them.
func eachStmt(list []api.Stmt, do func(s *api.Stmt)) {
	for i := range list {
		do(&list[i])
		eachStmt(list[i].Body, do)
		eachStmt(list[i].Else, do)
	}
}

// eachExpr does that with each expression of a list, and with those within them.
func eachExpr(list []api.Expr, do func(x *api.Expr)) {
	for i := range list {
		do(&list[i])
		eachExpr(list[i].Kids, do)
	}
}

// eachBody does that with each function, and with each body of a role.
func eachBody(p api.Program, do func(b *api.Body, fn bool)) {
	for i := range p.Fns {
		do(&p.Fns[i], true)
	}
	for _, r := range p.Roles {
		for i := range r.On {
			do(&r.On[i], false)
		}
	}
}

// lineOf is where the lines of a program stand.
func lineOf(p api.Program) (all []*int) {
	for i := range p.Roles {
		all = append(all, &p.Roles[i].Line)
	}
	eachBody(p, func(b *api.Body, _ bool) {
		all = append(all, &b.Line)
		eachStmt(b.Stmts, func(s *api.Stmt) { all = append(all, &s.Line) })
	})
	return all
}

// found is a fault, and why it is one.
type found struct {
	why   string
	fault api.Fault
}

// finder tells all faults of a right program, in the order of the chapter: another way to check it.
type finder struct {
	p   api.Program
	all []found
}

func (d *finder) ask(fine bool, why string, e api.Errno, line int) {
	if !fine {
		d.all = append(d.all, found{why, api.Fault{Err: e, Line: line}})
	}
}

// params is how many parameters the first function or role of that name has; -1 of none.
func (d *finder) params(fn bool, name string) int {
	if fn {
		if i := slices.IndexFunc(d.p.Fns, func(b api.Body) bool { return b.Name == name }); i >= 0 {
			return len(d.p.Fns[i].Params)
		}
	} else if i := slices.IndexFunc(d.p.Roles, func(r api.Role) bool { return r.Name == name }); i >= 0 {
		return len(d.p.Roles[i].Params)
	}
	return -1
}

func (d *finder) use(fn bool, why, name string, many, line int) {
	params := d.params(fn, name)
	d.ask(params >= 0, why+" of none", api.ErrName, line)
	d.ask(params < 0 || params == many, why+" arity", api.ErrArity, line)
}

func (d *finder) expr(x api.Expr, scope []string, line int) {
	for _, kid := range x.Kids {
		d.expr(kid, scope, line)
	}
	if x.Kind == api.EName {
		d.ask(slices.Contains(scope, x.S), "name", api.ErrName, line)
	}
	if x.Kind == api.ECall {
		d.use(true, "call", x.S, len(x.Kids), line)
	}
	if x.Kind == api.ESpawn {
		d.use(false, "spawn", x.S, len(x.Kids), line)
	}
}

// stmts goes through statements that begin with the scope, which stays as it is.
func (d *finder) stmts(list []api.Stmt, scope []string, fn bool) {
	if len(list) == 0 {
		return
	}
	s, there := list[0], slices.Contains(scope, list[0].S)
	for _, x := range s.Exprs {
		d.expr(x, scope, s.Line)
	}
	switch s.Kind {
	case api.SLet:
		d.ask(!there, "let twice", api.ErrTwice, s.Line)
		d.ask(there || len(scope) < mostVars, "let nested", api.ErrNested, s.Line)
	case api.SSet:
		d.ask(there, "set", api.ErrName, s.Line)
	case api.SReturn:
		d.ask(fn, "return", api.ErrPlace, s.Line)
	case api.SStop:
		d.ask(!fn, "stop", api.ErrPlace, s.Line)
	case api.SBecome:
		d.ask(!fn, "become", api.ErrPlace, s.Line)
		d.use(false, "become", s.S, len(s.Exprs), s.Line)
	}
	d.stmts(s.Body, scope, fn)
	d.stmts(s.Else, scope, fn)
	if s.Kind == api.SLet {
		scope = append(slices.Clone(scope), s.S)
	}
	d.stmts(list[1:], scope, fn)
}

// sameNames tells whether two of the names are the same.
func sameNames(all []string) bool {
	for i, name := range all {
		if slices.Contains(all[:i], name) {
			return true
		}
	}
	return false
}

func (d *finder) bodies(list []api.Body, state []string, fn bool) {
	for i, b := range list {
		d.ask(!slices.ContainsFunc(list[:i], func(o api.Body) bool { return o.Name == b.Name }), fmt.Sprint("body twice ", fn), api.ErrTwice, b.Line)
		scope := slices.Concat(state, b.Params)
		d.ask(!sameNames(scope), fmt.Sprint("body params ", fn), api.ErrTwice, b.Line)
		d.ask(len(scope) <= mostVars, "body nested", api.ErrNested, b.Line)
		d.stmts(b.Stmts, scope, fn)
	}
}

// faults is all faults of a right program.
func faults(p api.Program) []found {
	d := &finder{p: p}
	d.bodies(p.Fns, nil, true)
	for i, r := range p.Roles {
		d.ask(!slices.ContainsFunc(p.Roles[:i], func(o api.Role) bool { return o.Name == r.Name }), "role twice", api.ErrTwice, r.Line)
		d.ask(!sameNames(r.Params), "role params", api.ErrTwice, r.Line)
		d.bodies(r.On, r.Params, false)
	}
	return d.all
}

// wantFirst tells what Check answers of p, if it is not its first fault, and why that is one; also if the fault does not come again.
func wantFirst(t *testing.T, p api.Program) string {
	t.Helper()
	f, first := check.Check(p), found{}
	if all := faults(p); len(all) > 0 {
		first = all[0]
	}
	if f != first.fault || f != check.Check(p) {
		text, _ := tree.Show(p)
		t.Fatalf("Check = %v; want %v; of %+v\n%s", f, first, p, text)
	}
	return first.why
}

// P10.1: programs by chance, against the second way.
func TestByChance(t *testing.T) {
	r := rand.New(rand.NewPCG(10, 1))
	seen := map[string]int{}
	for i := range 15000 {
		m := &maker{Rand: r, astray: []int{0, 2, 8, 30, 100}[i%5], left: 10 + r.IntN(400)}
		if i%3 > 0 {
			m.sort = sorts[r.IntN(len(sorts))]
		}
		p := m.program()
		if !tree.Right(p) {
			t.Fatalf("%d is not right: %+v", i, p)
		}
		why := wantFirst(t, p)
		if m.astray == 0 && why != "" {
			t.Fatalf("%d: %s, though the maker never went astray", i, why)
		}
		seen[why]++
	}
	for _, why := range []string{
		"", "body twice true", "body twice false", "role twice", "body params true", "body params false", "role params", "body nested", "name", "call of none", "call arity", "spawn of none", "spawn arity",
		"let twice", "let nested", "set", "return", "stop", "become", "become of none", "become arity",
	} {
		if seen[why] < 10 {
			t.Errorf("the fault %q came only %d times", why, seen[why])
		}
	}
}

// checked is programs by chance that have no fault.
func checked(t *testing.T, seed uint64, many int, do func(m *maker, p api.Program)) {
	t.Helper()
	r := rand.New(rand.NewPCG(10, seed))
	for range many {
		m := &maker{Rand: r, left: 10 + r.IntN(300)}
		p := m.program()
		if f := check.Check(p); f != (api.Fault{}) {
			t.Fatalf("Check(%+v) = %v", p, f)
		}
		do(m, p)
	}
}

// only wants that fault alone, and tells what p is.
func only(t *testing.T, p api.Program, e api.Errno, line int) {
	t.Helper()
	if f := check.Check(p); f != (api.Fault{Err: e, Line: line}) {
		text, _ := tree.Show(p)
		t.Fatalf("Check = %v; want %d in line %d; of %+v\n%s", f, e, line, p, text)
	}
}

// P10.2: in a checked program each name is seen where it stands: each one that is changed to one that nothing has is ErrName there; so is a value more or less ErrArity.
func TestNamesAreSeen(t *testing.T) {
	checked(t, 2, 200, func(_ *maker, p api.Program) {
		eachBody(p, func(b *api.Body, fn bool) {
			eachStmt(b.Stmts, func(s *api.Stmt) {
				if s.Kind == api.SSet || s.Kind == api.SBecome {
					was := s.S
					s.S = "nothing"
					only(t, p, api.ErrName, s.Line)
					s.S = was
				}
				if s.Kind == api.SBecome {
					was := s.Exprs
					s.Exprs = append(slices.Clone(was), one())
					only(t, p, api.ErrArity, s.Line)
					s.Exprs = was
				}
				eachExpr(s.Exprs, func(x *api.Expr) {
					if x.Kind != api.EName && x.Kind != api.ECall && x.Kind != api.ESpawn {
						return
					}
					was := *x
					x.S = "nothing"
					only(t, p, api.ErrName, s.Line)
					*x = was
					if x.Kind == api.EName {
						return
					}
					x.Kids = append(slices.Clone(was.Kids), one())
					only(t, p, api.ErrArity, s.Line)
					if len(was.Kids) > 0 {
						x.Kids = was.Kids[1:]
						only(t, p, api.ErrArity, s.Line)
					}
					*x = was
				})
			})
		})
	})
}

// P10.2: a statement more at the end of any body, without names, leaves a program checked; one that may not stand there, or a name that nothing has, is the only fault.
func TestStatementMore(t *testing.T) {
	checked(t, 3, 200, func(m *maker, p api.Program) {
		eachBody(p, func(b *api.Body, fn bool) {
			ends := []*[]api.Stmt{&b.Stmts}
			eachStmt(b.Stmts, func(s *api.Stmt) {
				if s.Kind == api.SIf || s.Kind == api.SWhile {
					ends = append(ends, &s.Body)
				}
				if s.Kind == api.SIf {
					ends = append(ends, &s.Else)
				}
			})
			for _, end := range ends {
				was := *end
				add := func(s api.Stmt) api.Stmt {
					s.Line = 5000
					*end = append(slices.Clone(was), s)
					return s
				}
				for _, s := range []api.Stmt{
					{Kind: api.SExpr, Exprs: []api.Expr{one()}}, {Kind: api.SExpr, Exprs: []api.Expr{{Kind: api.ESelf}}}, {Kind: api.SIf, Exprs: []api.Expr{one()}}, {Kind: api.SWhile, Exprs: []api.Expr{one()}},
					{Kind: api.SSend, S: "nothing", Exprs: []api.Expr{{Kind: api.ESelf}}},
				} {
					add(s)
					only(t, p, api.OK, 0)
				}
				here, elsewhere := api.Stmt{Kind: api.SStop}, api.Stmt{Kind: api.SReturn, Exprs: []api.Expr{one()}}
				if fn {
					here, elsewhere = elsewhere, here
				}
				add(here)
				only(t, p, api.OK, 0)
				add(elsewhere)
				only(t, p, api.ErrPlace, 5000)
				add(api.Stmt{Kind: api.SExpr, Exprs: []api.Expr{{Kind: api.EName, S: "nothing"}}})
				only(t, p, api.ErrName, 5000)
				*end = was
			}
		})
	})
}

// P10.1: a program's text and its tree are checked alike, but for the lines.
func TestShown(t *testing.T) {
	r := rand.New(rand.NewPCG(10, 4))
	for i := range 1500 {
		m := &maker{Rand: r, astray: []int{0, 30}[i%2], left: 10 + r.IntN(200)}
		p := m.program()
		text, e := tree.Show(p)
		if e != api.OK {
			continue
		}
		again := parsed(t, text)
		f := wantFirst(t, again)
		if g := check.Check(p); g.Err != check.Check(again).Err {
			t.Fatalf("Check of the tree is %v, of its text %s: %s", g, f, text)
		}
		// In a program that is shown each statement stands in a line of its own: that of the fault is in it.
		if line := check.Check(again).Line; line < 0 || line > strings.Count(text, "\n") {
			t.Fatalf("the line %d of %d: %s", line, strings.Count(text, "\n"), text)
		}
		if !reflect.DeepEqual(again, parsed(t, text)) {
			t.Fatalf("Check changes %s", text)
		}
	}
}
