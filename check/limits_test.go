package check_test

import (
	"fmt"
	"math"
	"reflect"
	"strings"
	"testing"

	"drover/api"
	"drover/check"
)

// P10.1: a scope has at most MaxVars names.
func TestVars(t *testing.T) {
	for _, params := range []int{0, 1, 29, 30} {
		room := mostVars - params
		head := "func f(" + names("p", params) + ") {"
		wantOK(t, head+lets("v", room)+" }")
		want(t, head+lets("v", room)+"\nlet w = 1; }", api.ErrNested, room+2)
		want(t, head+lets("v", room)+"\nif (1) {\nlet w = 1; } }", api.ErrNested, room+3)
		want(t, head+lets("v", room)+"\nif (1) { } else {\nlet w = 1; } }", api.ErrNested, room+3)
		want(t, head+lets("v", room)+"\nwhile (1) {\nlet w = 1; } }", api.ErrNested, room+3)
		// What was let in braces that are shut is not there any more.
		wantOK(t, head+" if (1) {"+lets("v", room)+" } else {"+lets("v", room)+" } while (1) {"+lets("v", room)+" }"+lets("v", room)+" }")
		want(t, head+" if (1) {"+lets("v", room)+" } else {"+lets("v", room)+"\nlet w = 1; } }", api.ErrNested, 2*room+2)
	}
	for _, c := range []struct{ state, params int }{{0, 30}, {30, 0}, {15, 15}, {1, 29}, {29, 1}, {7, 8}, {0, 0}} {
		room := mostVars - c.state - c.params
		head := "actor c(" + names("s", c.state) + ") { on x() { }\non y(" + names("p", c.params) + ") {"
		wantOK(t, head+lets("v", room)+" } }")
		want(t, head+lets("v", room)+"\nlet w = 1; } }", api.ErrNested, room+3)
		want(t, head+lets("v", room/2)+" while (1) {"+lets("w", room-room/2)+"\nlet x = 1; } } }", api.ErrNested, room+3)
	}
}

// P10.1: a let of a name that is in the scope, or whose expression has a fault, is that, also where the scope is full.
func TestVarsOrder(t *testing.T) {
	head := "func f(" + names("p", mostVars) + ") {\n"
	want(t, head+"let p0 = 1; }", api.ErrTwice, 2)
	want(t, head+"let p29 = 1; }", api.ErrTwice, 2)
	want(t, head+"let w = w; }", api.ErrName, 2)
	want(t, head+"let w = call f(); }", api.ErrArity, 2)
	want(t, head+"let w = 1; stop; }", api.ErrNested, 2)
	want(t, head+"if (1) { let w = 1; }\nx; }", api.ErrNested, 2)
	want(t, head+"x;\nlet w = 1; }", api.ErrName, 2)
	wantOK(t, head+"set p0 = p29; }")
}

// P10.1: a body's parameters and its role's may be too many together: ahead of its statements, behind ErrTwice.
func TestBodyVars(t *testing.T) {
	for _, c := range []struct {
		state, params int
		err           api.Errno
	}{{0, 30, api.OK}, {1, 29, api.OK}, {15, 15, api.OK}, {30, 0, api.OK}, {1, 30, api.ErrNested}, {30, 1, api.ErrNested}, {15, 16, api.ErrNested}, {16, 15, api.ErrNested}, {30, 30, api.ErrNested}, {20, 20, api.ErrNested}} {
		line := 0
		if c.err != api.OK {
			line = 2
		}
		head := "actor c(" + names("s", c.state) + ") { on x() { }\non y(" + names("p", c.params) + ") { "
		want(t, head+"} }", c.err, line)
		want(t, head+"} on z() { } }", c.err, line)
		if c.err == api.OK {
			want(t, head+"\nq; } }", api.ErrName, 3)
			want(t, head+"} on\nx() { } }", api.ErrTwice, 2)
			continue
		}
		want(t, head+"\nq; } }", api.ErrNested, 2)
		want(t, head+"} on\nx() { } }", api.ErrNested, 2)
		want(t, "func f() {\nq; }\n"+head+"} }", api.ErrName, 2)
	}
	full := "actor c(" + names("s", mostVars) + ") {\n"
	want(t, full+"on x(s0) { } }", api.ErrTwice, 2)
	want(t, full+"on x(a, a) { } }", api.ErrTwice, 2)
	want(t, full+"on x("+names("p", 29)+", s29) { } }", api.ErrTwice, 2)
	want(t, full+"on x() { q; }\non x(a) { } }", api.ErrName, 2)
	want(t, full+"on x() { }\non x(a) { } }", api.ErrTwice, 3)
	want(t, full+"on x(a) { }\non x(a) { } }", api.ErrNested, 2)
	want(t, full+"on x() { }\non y() { }\non z(a) { } }", api.ErrNested, 4)
	wantOK(t, full+"} func f("+names("s", mostVars)+") { }")
}

// one is an expression that is right and has no fault.
func one() api.Expr {
	return api.Expr{Kind: api.EInt, N: 1}
}

// saying is a program of one function f with these statements.
func saying(stmts ...api.Stmt) api.Program {
	return api.Program{Fns: []api.Body{{Name: "f", Stmts: stmts}}}
}

// deep is a program that is so deep; it has as many parts.
func deep(levels int) api.Program {
	e := one()
	for range levels - 2 {
		e = api.Expr{Kind: api.EOp, S: "-", Kids: []api.Expr{e}}
	}
	return saying(api.Stmt{Kind: api.SExpr, Exprs: []api.Expr{e}})
}

// parts is a program that has so many parts.
func parts(many int) api.Program {
	s := []api.Stmt{{Kind: api.SSend, S: "x"}}
	for range many - 1 {
		s[0].Exprs = append(s[0].Exprs, one())
	}
	return saying(s...)
}

// items is a program of so many functions, so many roles, and a role of so many bodies; each name is another one.
func items(fns, roles, bodies int) api.Program {
	var p api.Program
	for i := range fns {
		p.Fns = append(p.Fns, api.Body{Name: fmt.Sprint("f", i)})
	}
	for i := range roles {
		p.Roles = append(p.Roles, api.Role{Name: fmt.Sprint("r", i)})
	}
	if bodies > 0 {
		last := api.Role{Name: "last"}
		for i := range bodies {
			last.On = append(last.On, api.Body{Name: fmt.Sprint("b", i)})
		}
		p.Roles = append(p.Roles, last)
	}
	return p
}

// P10.1: what is as much as a program may be has no fault; a part more is ErrTree.
func TestMost(t *testing.T) {
	params := strings.Split(names("p", mostVars), ", ")
	for i, p := range []api.Program{
		{}, deep(mostNest), parts(mostParts), items(mostItems, 0, 0), items(0, mostItems, 0), items(30, 30, 0), items(29, 30, mostItems), {Fns: []api.Body{{Name: "f", Params: params}}}, {Roles: []api.Role{{Name: "r", Params: params}}},
		{Roles: []api.Role{{Name: "r", On: []api.Body{{Name: "b", Params: params}}}}},
	} {
		if f := check.Check(p); f != (api.Fault{}) {
			t.Errorf("%d: %v", i, f)
		}
	}
	more := append(params[:mostVars:mostVars], "more")
	for i, p := range []api.Program{
		deep(mostNest + 1), parts(mostParts + 1), items(mostItems+1, 0, 0), items(0, mostItems+1, 0), items(30, 31, 0), items(0, 0, mostItems+1), {Fns: []api.Body{{Name: "f", Params: more}}}, {Roles: []api.Role{{Name: "r", Params: more}}},
		{Roles: []api.Role{{Name: "r", On: []api.Body{{Name: "b", Params: more}}}}},
	} {
		if f := check.Check(p); f != (api.Fault{Err: api.ErrTree}) {
			t.Errorf("beyond, %d: %v", i, f)
		}
	}
}

// P10.1: ErrTree, line 0, of what is no right program, ahead of every other fault.
func TestTree(t *testing.T) {
	faulty := api.Body{Name: "f", Line: 1, Params: []string{"a", "a"}, Stmts: []api.Stmt{{Kind: api.SStop, Line: 2}}}
	endless := []api.Stmt{{Kind: api.SWhile, Exprs: []api.Expr{one()}, Line: 3}}
	endless[0].Body = endless
	kids := []api.Expr{{Kind: api.ELen}}
	kids[0].Kids = kids
	for i, b := range []api.Body{
		{Line: 3}, {Name: "1", Line: 3}, {Name: "if", Line: 3}, {Name: " g", Line: 3}, {Name: "g", Params: []string{""}, Line: 3}, {Name: "g", Params: []string{"self"}, Line: 3},
		{Name: "g", Stmts: []api.Stmt{{Line: 3}}}, {Name: "g", Stmts: []api.Stmt{{Kind: 10, Line: 3}}}, {Name: "g", Stmts: []api.Stmt{{Kind: 255, Line: 3}}},
		{Name: "g", Stmts: []api.Stmt{{Kind: api.SLet, S: "x", Line: 3}}}, {Name: "g", Stmts: []api.Stmt{{Kind: api.SSet, Exprs: []api.Expr{one()}, Line: 3}}}, {Name: "g", Stmts: []api.Stmt{{Kind: api.SStop, S: "x", Line: 3}}},
		{Name: "g", Stmts: []api.Stmt{{Kind: api.SSend, S: "x", Line: 3}}}, {Name: "g", Stmts: []api.Stmt{{Kind: api.SReturn, Line: 3}}}, {Name: "g", Stmts: []api.Stmt{{Kind: api.SStop, Body: []api.Stmt{{Kind: api.SStop}}, Line: 3}}},
		{Name: "g", Stmts: []api.Stmt{{Kind: api.SExpr, Exprs: []api.Expr{{}}, Line: 3}}}, {Name: "g", Stmts: []api.Stmt{{Kind: api.SExpr, Exprs: []api.Expr{{Kind: 12}}, Line: 3}}},
		{Name: "g", Stmts: []api.Stmt{{Kind: api.SExpr, Exprs: []api.Expr{{Kind: api.EInt, N: -1}}, Line: 3}}}, {Name: "g", Stmts: []api.Stmt{{Kind: api.SExpr, Exprs: []api.Expr{{Kind: api.ECall}}, Line: 3}}},
		{Name: "g", Stmts: []api.Stmt{{Kind: api.SExpr, Exprs: []api.Expr{{Kind: api.ETuple, Kids: []api.Expr{one()}}}, Line: 3}}},
		{Name: "g", Stmts: endless}, {Name: "g", Stmts: []api.Stmt{{Kind: api.SExpr, Exprs: kids}}},
	} {
		for _, p := range []api.Program{
			{Fns: []api.Body{b}}, {Roles: []api.Role{{Name: "c", On: []api.Body{b}}}},
			{Fns: []api.Body{faulty, b}}, {Fns: []api.Body{faulty}, Roles: []api.Role{{Name: "c"}, {Name: "c", On: []api.Body{faulty, b}}}},
		} {
			if f := check.Check(p); f != (api.Fault{Err: api.ErrTree}) {
				t.Errorf("%d: %v", i, f)
			}
		}
	}
	for i, r := range []api.Role{{Line: 3}, {Name: "on", Line: 3}, {Name: "d", Params: []string{"2"}, Line: 3}, {Name: "d", On: []api.Body{{}}, Line: 3}} {
		for _, p := range []api.Program{{Roles: []api.Role{r}}, {Fns: []api.Body{faulty}, Roles: []api.Role{{Name: "c"}, {Name: "c"}, r}}} {
			if f := check.Check(p); f != (api.Fault{Err: api.ErrTree}) {
				t.Errorf("role %d: %v", i, f)
			}
		}
	}
}

// P10.1: a line is told as it was handed in, whatever it is.
func TestAnyLine(t *testing.T) {
	for _, line := range []int{0, 1, -1, 7, math.MaxInt, math.MinInt} {
		stop := api.Stmt{Kind: api.SStop, Line: line}
		for _, c := range []struct {
			p   api.Program
			err api.Errno
		}{
			{saying(stop), api.ErrPlace},
			{saying(api.Stmt{Kind: api.SWhile, Exprs: []api.Expr{one()}, Body: []api.Stmt{stop}, Line: 5}), api.ErrPlace},
			{api.Program{Fns: []api.Body{{Name: "f", Line: 5}, {Name: "f", Line: line}}}, api.ErrTwice},
			{api.Program{Roles: []api.Role{{Name: "c", Line: 5}, {Name: "c", Line: line}}}, api.ErrTwice},
			{api.Program{Roles: []api.Role{{Name: "c", Params: []string{"a"}, Line: 5, On: []api.Body{{Name: "x", Params: []string{"a"}, Line: line}}}}}, api.ErrTwice},
			{api.Program{Roles: []api.Role{{Name: "c", Params: strings.Split(names("p", mostVars), ", "), Line: 5, On: []api.Body{{Name: "x", Params: []string{"a"}, Line: line}}}}}, api.ErrNested},
		} {
			if f := check.Check(c.p); f != (api.Fault{Err: c.err, Line: line}) {
				t.Errorf("Check(%+v) = %v; want %d in line %d", c.p, f, c.err, line)
			}
		}
	}
}

// R3: what is handed in is not changed, nor is the spare room of its lists.
func TestHandedIn(t *testing.T) {
	made := func() api.Program {
		params := append(make([]string, 0, 40), "a", "b", "spare")[:2]
		kids := append(make([]api.Expr, 0, 9), one(), one(), api.Expr{Kind: 99})[:2]
		exprs := append(make([]api.Expr, 0, 9), api.Expr{Kind: api.ECall, S: "f", Kids: kids}, api.Expr{Kind: 99})[:1]
		body := append(make([]api.Stmt, 0, 9), api.Stmt{Kind: api.SLet, S: "c", Exprs: exprs}, api.Stmt{Kind: 99})[:1]
		stmts := append(make([]api.Stmt, 0, 9), api.Stmt{Kind: api.SIf, Exprs: exprs, Body: body, Else: body}, api.Stmt{Kind: api.SLet, S: "c", Exprs: exprs}, api.Stmt{Kind: 99})[:2]
		on := append(make([]api.Body, 0, 9), api.Body{Name: "x", Params: []string{"n"}, Stmts: stmts}, api.Body{Name: "spare"})[:1]
		return api.Program{
			Fns:   append(make([]api.Body, 0, 9), api.Body{Name: "f", Params: params, Stmts: stmts}, api.Body{Name: "spare"})[:1],
			Roles: append(make([]api.Role, 0, 9), api.Role{Name: "c", Params: params, On: on}, api.Role{Name: "spare"})[:1],
		}
	}
	// whole is a program with all that is in its lists' spare room.
	whole := func(p api.Program) []any {
		f, r := p.Fns[:cap(p.Fns)], p.Roles[:cap(p.Roles)]
		s := f[0].Stmts[:cap(f[0].Stmts)]
		x := s[0].Exprs[:cap(s[0].Exprs)]
		return []any{f, r, s, x, f[0].Params[:cap(f[0].Params)], r[0].On[:cap(r[0].On)], s[0].Body[:cap(s[0].Body)], x[0].Kids[:cap(x[0].Kids)]}
	}
	p := made()
	if f := check.Check(p); f != (api.Fault{}) {
		t.Fatal(f)
	}
	if !reflect.DeepEqual(whole(p), whole(made())) {
		t.Error("what is handed in is changed")
	}
}
