package tree

import (
	"strconv"

	"drover/api"
	"drover/words"
)

// shower puts a right program's text together, of which it keeps no more than a program may have.
type shower struct {
	text  []byte
	long  bool // there was more than that
	level int  // how many tabs stand ahead of a line
}

// Show is p as a text.
func Show(p api.Program) (string, api.Errno) {
	if !Right(p) {
		return "", api.ErrTree
	}
	s := &shower{}
	for _, f := range p.Fns {
		s.body("func ", f)
	}
	for _, r := range p.Roles {
		s.role(r)
	}
	if s.long {
		return "", api.ErrLong
	}
	return string(s.text), api.OK
}

// put puts texts behind what is there, if there is room.
func (s *shower) put(texts ...string) {
	for _, t := range texts {
		if s.long || len(t) > api.MaxSource-len(s.text) {
			s.long = true
			return
		}
		s.text = append(s.text, t...)
	}
}

// begin begins a line.
func (s *shower) begin(texts ...string) {
	for range s.level {
		s.put("\t")
	}
	s.put(texts...)
}

// head puts a name and the names in parentheses behind it.
func (s *shower) head(name string, params []string) {
	s.put(name, "(")
	for i, param := range params {
		if i > 0 {
			s.put(", ")
		}
		s.put(param)
	}
	s.put(")")
}

// body puts the lines of a function, or of what an actor does at a message.
func (s *shower) body(key string, b api.Body) {
	s.begin(key)
	s.head(b.Name, b.Params)
	s.braces(b.Stmts)
	s.put("\n")
}

// role puts the lines of an actor.
func (s *shower) role(r api.Role) {
	s.begin("actor ")
	s.head(r.Name, r.Params)
	s.put(" {\n")
	s.level++
	for _, b := range r.On {
		s.body("on ", b)
	}
	s.level--
	s.begin("}\n")
}

// braces puts statements, in lines of their own, and the braces around them.
func (s *shower) braces(list []api.Stmt) {
	s.put(" {\n")
	s.level++
	for _, x := range list {
		s.stmt(x)
	}
	s.level--
	s.begin("}")
}

// stmt puts the lines of a statement.
func (s *shower) stmt(x api.Stmt) {
	switch x.Kind {
	case api.SLet:
		s.begin("let ", x.S, " = ")
		s.expr(x.Exprs[0])
	case api.SSet:
		s.begin("set ", x.S, " = ")
		s.expr(x.Exprs[0])
	case api.SIf, api.SWhile:
		s.branch(x)
		return
	case api.SReturn:
		s.begin("return ")
		s.expr(x.Exprs[0])
	case api.SSend:
		// Only a post may stand behind send: an operation is not read back there without parentheses.
		s.begin("send ")
		s.part(x.Exprs[0])
		s.put(" ", x.S)
		s.list(x.Exprs[1:])
	case api.SBecome:
		s.begin("become ", x.S)
		s.list(x.Exprs)
	case api.SStop:
		s.begin("stop")
	case api.SExpr:
		s.begin()
		s.expr(x.Exprs[0])
	}
	s.put(";\n")
}

// branch puts the lines of an if or a while.
func (s *shower) branch(x api.Stmt) {
	key := "if ("
	if x.Kind == api.SWhile {
		key = "while ("
	}
	s.begin(key)
	s.expr(x.Exprs[0])
	s.put(")")
	s.braces(x.Body)
	if len(x.Else) > 0 {
		s.put(" else")
		s.braces(x.Else)
	}
	s.put("\n")
}

// expr puts an expression.
func (s *shower) expr(e api.Expr) {
	switch e.Kind {
	case api.EInt:
		s.put(strconv.FormatInt(e.N, 10))
	case api.ETruth:
		s.put(strconv.FormatBool(e.N == 1))
	case api.EText:
		s.quote(e.S)
	case api.EName:
		s.put(e.S)
	case api.ESelf:
		s.put("self")
	case api.ETuple:
		s.list(e.Kids)
	case api.EOp:
		s.op(e)
	case api.EAt:
		s.part(e.Kids[0])
		s.put("[")
		s.expr(e.Kids[1])
		s.put("]")
	case api.ELen:
		s.put("len")
		s.list(e.Kids)
	case api.ECall:
		s.put("call ", e.S)
		s.list(e.Kids)
	case api.ESpawn:
		s.put("spawn ", e.S)
		s.list(e.Kids)
	}
}

// op puts an operation.
func (s *shower) op(e api.Expr) {
	if len(e.Kids) == 2 {
		s.part(e.Kids[0])
		s.put(" ")
	}
	s.put(e.S, " ")
	s.part(e.Kids[len(e.Kids)-1])
}

// part puts an expression, in parentheses if it is an operation.
func (s *shower) part(e api.Expr) {
	if e.Kind != api.EOp {
		s.expr(e)
		return
	}
	s.put("(")
	s.op(e)
	s.put(")")
}

// list puts expressions, with commas between, in parentheses.
func (s *shower) list(all []api.Expr) {
	s.put("(")
	for i, e := range all {
		if i > 0 {
			s.put(", ")
		}
		s.expr(e)
	}
	s.put(")")
}

// quote puts a text that says these bytes.
func (s *shower) quote(says string) {
	// No text is shorter than what it says: one that has no room needs not be made.
	if len(says) > api.MaxSource {
		s.long = true
		return
	}
	s.put(words.Quote(says))
}
