package tree

import (
	"drover/api"
	"drover/words"
)

// counter counts a program's parts, so that of one without end (a list may stand within itself) only so many are asked.
type counter struct {
	left int // parts that may still come
}

// Right tells whether p is a right program.
func Right(p api.Program) bool {
	if len(p.Fns)+len(p.Roles) > api.MaxItems {
		return false
	}
	c := &counter{left: api.MaxParts}
	for _, f := range p.Fns {
		if !c.body(f) {
			return false
		}
	}
	for _, r := range p.Roles {
		if !c.role(r) {
			return false
		}
	}
	return true
}

// role tells whether r is right.
func (c *counter) role(r api.Role) bool {
	if !rightHead(r.Name, r.Params) || len(r.On) > api.MaxItems {
		return false
	}
	for _, b := range r.On {
		if !c.body(b) {
			return false
		}
	}
	return true
}

// body tells whether b is right.
func (c *counter) body(b api.Body) bool {
	return rightHead(b.Name, b.Params) && c.stmts(b.Stmts, 1)
}

// stmts tells whether all statements of a list, so deep, are right.
func (c *counter) stmts(list []api.Stmt, deep int) bool {
	for _, s := range list {
		if !c.part(deep) || !rightStmt(s) || !c.exprs(s.Exprs, deep+1) || !c.stmts(s.Body, deep+1) || !c.stmts(s.Else, deep+1) {
			return false
		}
	}
	return true
}

// exprs tells whether all expressions of a list, so deep, are right.
func (c *counter) exprs(list []api.Expr, deep int) bool {
	for _, e := range list {
		if !c.part(deep) || !rightExpr(e) || !c.exprs(e.Kids, deep+1) {
			return false
		}
	}
	return true
}

// part counts a part, so deep, and tells whether it may be there.
func (c *counter) part(deep int) bool {
	c.left--
	return c.left >= 0 && deep <= api.MaxNest
}

// rightHead tells whether a function, a role or a body may have that name and these parameters.
func rightHead(name string, params []string) bool {
	if !isName(name) || len(params) > api.MaxVars {
		return false
	}
	for _, param := range params {
		if !isName(param) {
			return false
		}
	}
	return true
}

// rightStmt tells whether s, but for the parts within it, is right.
func rightStmt(s api.Stmt) bool {
	exprs, body, orElse := len(s.Exprs), len(s.Body), len(s.Else)
	switch s.Kind {
	case api.SIf:
		return s.S == "" && exprs == 1
	case api.SWhile:
		return s.S == "" && exprs == 1 && orElse == 0
	}
	if body > 0 || orElse > 0 {
		return false
	}
	switch s.Kind {
	case api.SLet, api.SSet:
		return isName(s.S) && exprs == 1
	case api.SReturn, api.SExpr:
		return s.S == "" && exprs == 1
	case api.SSend:
		return isName(s.S) && exprs >= 1
	case api.SBecome:
		return isName(s.S)
	case api.SStop:
		return s.S == "" && exprs == 0
	}
	return false
}

// rightExpr tells whether e, but for its kids, is right.
func rightExpr(e api.Expr) bool {
	kids := len(e.Kids)
	switch e.Kind {
	case api.EInt:
		return e.S == "" && e.N >= 0 && kids == 0
	case api.ETruth:
		return e.S == "" && (e.N == 0 || e.N == 1) && kids == 0
	}
	if e.N != 0 {
		return false
	}
	switch e.Kind {
	case api.EText:
		return kids == 0
	case api.EName:
		return isName(e.S) && kids == 0
	case api.ESelf:
		return e.S == "" && kids == 0
	case api.ETuple:
		return e.S == "" && kids != 1
	case api.EOp:
		return isOp(e.S, kids)
	case api.EAt:
		return e.S == "" && kids == 2
	case api.ELen:
		return e.S == "" && kids == 1
	case api.ECall, api.ESpawn:
		return isName(e.S)
	}
	return false
}

// isOp tells whether that is the sign of an operation of so many kids.
func isOp(sign string, kids int) bool {
	switch sign {
	case "-":
		return kids == 1 || kids == 2
	case "!":
		return kids == 1
	case "||", "&&", "==", "!=", "<", "<=", ">", ">=", "+", "++", "*", "/", "%":
		return kids == 2
	}
	return false
}

// isName tells whether s, whole, is a name.
func isName(s string) bool {
	w, f := words.Next(s, 0)
	return f.Err == api.OK && w.Kind == api.WName && w.At == 0 && w.End == len(s)
}
