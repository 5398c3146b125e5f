package code_test

import (
	"fmt"
	"strconv"
	"strings"
	"testing"

	"drover/api"
	"drover/check"
	"drover/code"
)

// integers is so many expressions, each of another number.
func integers(many int) (all []api.Expr) {
	for i := range many {
		all = append(all, api.Expr{Kind: api.EInt, N: int64(i + 1)})
	}
	return all
}

// saying is a program of one function with these statements.
func saying(stmts ...api.Stmt) api.Program {
	return api.Program{Fns: []api.Body{{Name: "f", Stmts: stmts}}}
}

// expr is a statement of an expression.
func expr(x api.Expr) api.Stmt {
	return api.Stmt{Kind: api.SExpr, Exprs: []api.Expr{x}}
}

// P11.3: what is as much as a program may be is right.
func TestMost(t *testing.T) {
	// Functions: 60 roles of 60 bodies.
	var p api.Program
	for r := range 60 {
		role := api.Role{Name: "r" + strconv.Itoa(r), Params: manyNames("s", r%31)}
		for b := range 60 {
			role.On = append(role.On, api.Body{Name: "b" + strconv.Itoa(b), Params: manyNames("p", (30-r%31)*b/59)})
		}
		p.Roles = append(p.Roles, role)
	}
	m := compiled(t, p)
	if len(m.Fns) != 3600 || len(m.Roles) != 60 || m.Roles[59].On[58] != (api.On{Tag: "b58", Params: 1, Fn: 3598}) || m.Fns[3599].Name != "b59" || m.Roles[30].Params != 30 || m.Fns[59].Params != 30 {
		t.Errorf("%d functions, %d roles, %v", len(m.Fns), len(m.Roles), m.Roles[59])
	}
	// Functions with 30 variables each, called with as many values.
	p = api.Program{}
	for i := range 60 {
		name := "f" + strconv.Itoa(i)
		p.Fns = append(p.Fns, api.Body{Name: name, Params: manyNames("p", 30), Stmts: []api.Stmt{expr(api.Expr{Kind: api.ECall, S: name, Kids: integers(30)})}})
	}
	m = compiled(t, p)
	if len(m.Fns) != 60 || len(m.Consts) != 31 || len(m.Fns[59].Code) != 34 || m.Fns[59].Vars != 30 || m.Fns[59].Code[30] != (api.Ins{Op: api.OCall, A: 59}) {
		t.Errorf("%d functions, %d constants, %s", len(m.Fns), len(m.Consts), shown(m.Fns[59].Code))
	}
	// Constants, tags, code: 2000 parts.
	p = saying()
	for i := range 1000 {
		p.Fns[0].Stmts = append(p.Fns[0].Stmts, expr(api.Expr{Kind: api.EInt, N: int64(i + 1)}))
	}
	m = compiled(t, p)
	if len(m.Consts) != 1001 || len(m.Fns[0].Code) != 2002 || m.Fns[0].Code[2000] != (api.Ins{Op: api.OConst, A: 1000}) {
		t.Errorf("%d constants, %d instructions", len(m.Consts), len(m.Fns[0].Code))
	}
	p = saying()
	for i := range 1000 {
		p.Fns[0].Stmts = append(p.Fns[0].Stmts, api.Stmt{Kind: api.SSend, S: "t" + strconv.Itoa(i), Exprs: []api.Expr{{Kind: api.ESelf}}})
	}
	m = compiled(t, p)
	if len(m.Tags) != 1000 || m.Tags[999] != "t999" || m.Fns[0].Code[1999] != (api.Ins{Op: api.OSend, A: 999}) {
		t.Errorf("%d tags", len(m.Tags))
	}
}

// P11.3: what is as deep as a program may be is right: jumps within jumps lead where they ought to.
func TestDeep(t *testing.T) {
	x := api.Expr{Kind: api.EName, S: "a"}
	for range 37 {
		x = api.Expr{Kind: api.EOp, S: "||", Kids: []api.Expr{{Kind: api.EName, S: "a"}, x}}
	}
	p := saying(expr(x))
	p.Fns[0].Params = []string{"a"}
	f := compiled(t, p).Fns[0]
	if len(f.Code) != 38+2*37+3 {
		t.Error(len(f.Code))
	}
	for i := range 37 {
		if want := (api.Ins{Op: api.OOr, A: len(f.Code) - 3 - i}); f.Code[2*i+1] != want {
			t.Errorf("%d: %s; want %s", i, code.Show(f.Code[2*i+1]), code.Show(want))
		}
	}
	text := "func f(a) {" + strings.Repeat("while (a) {", 38) + strings.Repeat("}", 39)
	f = compiled(t, parsed(t, text)).Fns[0]
	for i := range 38 {
		unless, jump := api.Ins{Op: api.OUnless, A: 3*38 - i}, api.Ins{Op: api.OJump, A: 2 * i}
		if f.Code[2*i+1] != unless || f.Code[3*38-1-i] != jump {
			t.Errorf("%d: %s, %s", i, code.Show(f.Code[2*i+1]), code.Show(f.Code[3*38-1-i]))
		}
	}
}

// P11.1, P11.2: what check takes is a module, though more may be in a text, a tuple or a send of it than a module may have: of that P11.1 has no error, and Check tells it.
func TestMoreThanModulesHave(t *testing.T) {
	send := func(many int) api.Stmt { return api.Stmt{Kind: api.SSend, S: "x", Exprs: integers(many + 1)} }
	for i, c := range []struct {
		stmt  api.Stmt
		ins   api.Ins
		right bool
	}{
		{expr(api.Expr{Kind: api.EText, S: strings.Repeat("x", 4096)}), api.Ins{Op: api.OConst}, true}, {expr(api.Expr{Kind: api.EText, S: strings.Repeat("x", 4097)}), api.Ins{Op: api.OConst}, false},
		{expr(api.Expr{Kind: api.ETuple, Kids: integers(255)}), api.Ins{Op: api.OTuple, A: 255}, true}, {expr(api.Expr{Kind: api.ETuple, Kids: integers(256)}), api.Ins{Op: api.OTuple, A: 256}, false},
		{send(255), api.Ins{Op: api.OSend, B: 255}, true}, {send(256), api.Ins{Op: api.OSend, B: 256}, false}, {send(1998), api.Ins{Op: api.OSend, B: 1998}, false},
	} {
		p := saying(c.stmt)
		if f := check.Check(p); f != (api.Fault{}) {
			t.Fatal(i, f)
		}
		m, f := code.Compile(p)
		if f != (api.Fault{}) || told(m) != told((&second{p: p}).compile()) || !strings.Contains(shown(m.Fns[0].Code), code.Show(c.ins)) {
			t.Errorf("%d: %v, %s", i, f, shown(m.Fns[0].Code))
		}
		wantCheck(t, fmt.Sprint("beyond, ", i), m, c.right)
	}
}
