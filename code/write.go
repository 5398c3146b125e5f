package code

import (
	"slices"

	"drover/api"
)

// stmts writes statements in braces; the variables that are let in them are free again behind them.
func (w *writer) stmts(list []api.Stmt) {
	ahead := len(w.scope)
	for _, s := range list {
		w.stmt(s)
	}
	w.scope = w.scope[:ahead]
}

// stmt writes a statement.
func (w *writer) stmt(s api.Stmt) {
	begin := len(w.fn.Code)
	w.exprs(s.Exprs)
	switch s.Kind {
	case api.SLet:
		w.write(api.OStore, w.let(s.S), 0)
	case api.SSet:
		w.write(api.OStore, w.variable(s.S), 0)
	case api.SIf:
		w.branches(s.Body, s.Else)
	case api.SWhile:
		leave := w.jump(api.OUnless)
		w.stmts(s.Body)
		w.write(api.OJump, begin, 0)
		leave()
	case api.SReturn:
		w.write(api.OReturn, 0, 0)
	case api.SSend:
		w.write(api.OSend, w.tags.place(s.S, s.S), len(s.Exprs)-1)
	case api.SBecome:
		w.write(api.OBecome, w.roles[s.S], 0)
	case api.SStop:
		w.write(api.OStop, 0, 0)
	case api.SExpr:
		w.write(api.OPop, 0, 0)
	}
}

// branches writes what is done if the truth ahead of it holds, and what is done otherwise.
func (w *writer) branches(then, otherwise []api.Stmt) {
	skipThen := w.jump(api.OUnless)
	w.stmts(then)
	if len(otherwise) == 0 {
		skipThen()
		return
	}
	skipOtherwise := w.jump(api.OJump)
	skipThen()
	w.stmts(otherwise)
	skipOtherwise()
}

// exprs writes expressions, one behind the other.
func (w *writer) exprs(list []api.Expr) {
	for _, x := range list {
		w.expr(x)
	}
}

// expr writes an expression.
func (w *writer) expr(x api.Expr) {
	if skip, ok := w.skips[x.S]; ok && x.Kind == api.EOp {
		w.skipping(skip, x.Kids[0], x.Kids[1])
		return
	}
	w.exprs(x.Kids)
	switch x.Kind {
	case api.EInt:
		w.constant(api.Value{Kind: api.VInt, N: x.N})
	case api.ETruth:
		w.constant(api.Value{Kind: api.VBool, N: x.N})
	case api.EText:
		w.constant(api.Value{Kind: api.VBytes, S: x.S})
	case api.EName:
		w.write(api.OLoad, w.variable(x.S), 0)
	case api.ESelf:
		w.write(api.OSelf, 0, 0)
	case api.ETuple:
		w.write(api.OTuple, len(x.Kids), 0)
	case api.EOp:
		w.write(w.opOf(x), 0, 0)
	case api.EAt:
		w.write(api.OAt, 0, 0)
	case api.ELen:
		w.write(api.OLen, 0, 0)
	case api.ECall:
		w.write(api.OCall, w.fns[x.S], 0)
	case api.ESpawn:
		w.write(api.OSpawn, w.roles[x.S], 0)
	}
}

// opOf is the Op of an operation that does both of its kids.
func (w *writer) opOf(x api.Expr) api.Op {
	if len(x.Kids) == 1 {
		return w.ofOne[x.S]
	}
	return w.ofTwo[x.S]
}

// skipping writes an operation that does not do its second part if the first one tells what comes of it.
func (w *writer) skipping(op api.Op, first, second api.Expr) {
	w.expr(first)
	skip := w.jump(op)
	w.expr(second)
	w.write(api.OTruth, 0, 0)
	skip()
}

// constant writes that v is put.
func (w *writer) constant(v api.Value) {
	w.write(api.OConst, w.consts.place(constant{kind: v.Kind, n: v.N, s: v.S}, v), 0)
}

// jump writes a jump to a place that is not known yet: what it answers lays it to where the code has come by then.
func (w *writer) jump(op api.Op) (lay func()) {
	at := len(w.fn.Code)
	w.write(op, 0, 0)
	return func() { w.fn.Code[at].A = len(w.fn.Code) }
}

// write writes an instruction.
func (w *writer) write(op api.Op, a, b int) {
	w.fn.Code = append(w.fn.Code, api.Ins{Op: op, A: a, B: b})
}

// let is the variable that has that name from now on.
func (w *writer) let(name string) int {
	w.scope = append(w.scope, name)
	w.fn.Vars = max(w.fn.Vars, len(w.scope))
	return len(w.scope) - 1
}

// variable is the one that has that name.
func (w *writer) variable(name string) int {
	return slices.Index(w.scope, name)
}
