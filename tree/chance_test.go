package tree_test

import (
	"fmt"
	"math"
	"math/rand/v2"
	"reflect"
	"strings"
	"testing"

	"drover/api"
	"drover/tree"
	"drover/words"
)

// maker makes right programs by chance.
type maker struct {
	*rand.Rand
	left int // parts that it may make
}

func (m *maker) name() string {
	return []string{"a", "b", "n1", "_", "_x", "lets", "If", "selfish", "on_", "x"}[m.IntN(10)]
}

func (m *maker) names() (all []string) {
	for range m.IntN(4) {
		all = append(all, m.name())
	}
	return all
}

// text is some bytes, those that a program can't have as they are among them.
func (m *maker) text() string {
	const of = "a\"\\\n\x00\xff #+;x0"
	b := make([]byte, m.IntN(6))
	for i := range b {
		b[i] = of[m.IntN(len(of))]
	}
	return string(b)
}

// leaf is an expression without kids.
func (m *maker) leaf() api.Expr {
	m.left--
	switch m.IntN(7) {
	case 0:
		return num([]int64{0, 1, 42, math.MaxInt64}[m.IntN(4)])
	case 1:
		return truth(m.Int64N(2))
	case 2:
		return text(m.text())
	case 3:
		return self()
	case 4:
		return tuple()
	}
	return name(m.name())
}

// expr is an expression, at most so deep.
func (m *maker) expr(deep int) api.Expr {
	if deep <= 1 || m.left <= 0 || m.IntN(5) == 0 {
		return m.leaf()
	}
	m.left--
	switch m.IntN(9) {
	case 0:
		return op([]string{"-", "!"}[m.IntN(2)], m.expr(deep-1))
	case 1:
		return tuple(append(m.exprs(deep-1), m.expr(deep-1), m.expr(deep-1))...)
	case 2:
		return place(m.expr(deep-1), m.expr(deep-1))
	case 3:
		return length(m.expr(deep - 1))
	case 4:
		return ex(api.ECall, m.name(), m.exprs(deep-1)...)
	case 5:
		return ex(api.ESpawn, m.name(), m.exprs(deep-1)...)
	}
	signs := strings.Fields("|| && == != < <= > >= + - ++ * / %")
	return op(signs[m.IntN(len(signs))], m.expr(deep-1), m.expr(deep-1))
}

func (m *maker) exprs(deep int) (all []api.Expr) {
	for range m.IntN(3) {
		all = append(all, m.expr(deep))
	}
	return all
}

// stmt is a statement, at most so deep.
func (m *maker) stmt(deep int) api.Stmt {
	m.left--
	if deep <= 1 {
		return st(api.SStop, "")
	}
	switch m.IntN(9) {
	case 0:
		return st(api.SLet, m.name(), m.expr(deep-1))
	case 1:
		return st(api.SSet, m.name(), m.expr(deep-1))
	case 2:
		return api.Stmt{Kind: api.SIf, Exprs: []api.Expr{m.expr(deep - 1)}, Body: m.stmts(deep - 1), Else: m.stmts(deep - 1)}
	case 3:
		return api.Stmt{Kind: api.SWhile, Exprs: []api.Expr{m.expr(deep - 1)}, Body: m.stmts(deep - 1)}
	case 4:
		return st(api.SReturn, "", m.expr(deep-1))
	case 5:
		return st(api.SSend, m.name(), append([]api.Expr{m.expr(deep - 1)}, m.exprs(deep-1)...)...)
	case 6:
		return st(api.SBecome, m.name(), m.exprs(deep-1)...)
	case 7:
		return st(api.SStop, "")
	}
	return st(api.SExpr, "", m.expr(deep-1))
}

func (m *maker) stmts(deep int) (all []api.Stmt) {
	for range m.IntN(4) {
		if m.left > 0 {
			all = append(all, m.stmt(deep))
		}
	}
	return all
}

func (m *maker) bodies(deep int) (all []api.Body) {
	for range m.IntN(4) {
		all = append(all, api.Body{Name: m.name(), Params: m.names(), Stmts: m.stmts(deep)})
	}
	return all
}

func (m *maker) program(deep int) api.Program {
	p := api.Program{Fns: m.bodies(deep)}
	for range m.IntN(4) {
		p.Roles = append(p.Roles, api.Role{Name: m.name(), Params: m.names(), On: m.bodies(deep)})
	}
	return p
}

// writer writes a program in another way than Show does: with as few parentheses as the grammar asks for and more of them by chance, and anything that is passed over between tokens; it lays the lines that this gives into the program.
type writer struct {
	*rand.Rand
	text  strings.Builder
	tight bool   // the last token needs nothing behind it
	waits []*int // lines that the next token tells
}

func isTight(token string) bool {
	return strings.Contains("()[]{},;", token)
}

func (w *writer) put(tokens ...string) {
	for _, token := range tokens {
		gaps := []string{" ", "\t", "\n", "\r\n", " # ( \"\n", "\n\n#\n"}
		if !w.tight && !isTight(token) || w.IntN(3) == 0 {
			w.text.WriteString(gaps[w.IntN(len(gaps))])
		}
		for _, line := range w.waits {
			*line = 1 + strings.Count(w.text.String(), "\n")
		}
		w.waits = nil
		w.text.WriteString(token)
		w.tight = isTight(token)
	}
}

// list puts how many things there are, with commas between, in parentheses.
func (w *writer) list(many int, one func(i int)) {
	w.put("(")
	for i := range many {
		if i > 0 {
			w.put(",")
		}
		one(i)
	}
	w.put(")")
}

func (w *writer) names(all []string) {
	w.list(len(all), func(i int) { w.put(all[i]) })
}

func (w *writer) exprs(all []api.Expr) {
	w.list(len(all), func(i int) { w.expr(all[i], 0) })
}

// levelOf is how tight an operation binds.
func levelOf(e api.Expr) int {
	switch {
	case e.Kind != api.EOp:
		return 6
	case len(e.Kids) == 1:
		return 5
	}
	switch e.S {
	case "||":
		return 0
	case "&&":
		return 1
	case "+", "-", "++":
		return 3
	case "*", "/", "%":
		return 4
	}
	return 2
}

// expr puts an expression where one that binds so tight may stand.
func (w *writer) expr(e api.Expr, least int) {
	level := levelOf(e)
	if level < least || w.IntN(8) == 0 {
		w.put("(")
		w.expr(e, 0)
		w.put(")")
		return
	}
	switch e.Kind {
	case api.EInt:
		w.put(strings.Repeat("0", w.IntN(2)) + fmt.Sprint(e.N))
	case api.ETruth:
		w.put(fmt.Sprint(e.N == 1))
	case api.EText:
		w.put(words.Quote(e.S))
	case api.EName:
		w.put(e.S)
	case api.ESelf:
		w.put("self")
	case api.ETuple:
		w.exprs(e.Kids)
	case api.EAt:
		w.expr(e.Kids[0], 6)
		w.put("[")
		w.expr(e.Kids[1], 0)
		w.put("]")
	case api.ELen:
		w.put("len")
		w.exprs(e.Kids)
	case api.ECall:
		w.put("call", e.S)
		w.exprs(e.Kids)
	case api.ESpawn:
		w.put("spawn", e.S)
		w.exprs(e.Kids)
	case api.EOp:
		w.op(e, level)
	}
}

func (w *writer) op(e api.Expr, level int) {
	if level == 5 {
		w.put(e.S)
		w.expr(e.Kids[0], 5)
		return
	}
	left := level
	if level == 2 { // no two of these beside one another
		left = 3
	}
	w.expr(e.Kids[0], left)
	w.put(e.S)
	w.expr(e.Kids[1], level+1)
}

func (w *writer) stmts(all []api.Stmt) {
	w.put("{")
	for i := range all {
		w.stmt(&all[i])
	}
	w.put("}")
}

func (w *writer) stmt(s *api.Stmt) {
	w.waits = append(w.waits, &s.Line)
	switch s.Kind {
	case api.SLet, api.SSet:
		w.put(map[api.StmtKind]string{api.SLet: "let", api.SSet: "set"}[s.Kind], s.S, "=")
		w.expr(s.Exprs[0], 0)
	case api.SIf, api.SWhile:
		w.put(map[api.StmtKind]string{api.SIf: "if", api.SWhile: "while"}[s.Kind], "(")
		w.expr(s.Exprs[0], 0)
		w.put(")")
		w.stmts(s.Body)
		if len(s.Else) > 0 || s.Kind == api.SIf && w.IntN(4) == 0 {
			w.put("else")
			w.stmts(s.Else)
		}
		return
	case api.SReturn:
		w.put("return")
		w.expr(s.Exprs[0], 0)
	case api.SSend:
		w.put("send")
		w.expr(s.Exprs[0], 6)
		w.put(s.S)
		w.exprs(s.Exprs[1:])
	case api.SBecome:
		w.put("become", s.S)
		w.exprs(s.Exprs)
	case api.SStop:
		w.put("stop")
	case api.SExpr:
		w.expr(s.Exprs[0], 0)
	}
	w.put(";")
}

func (w *writer) body(key string, b *api.Body) {
	w.waits = append(w.waits, &b.Line)
	w.put(key, b.Name)
	w.names(b.Params)
	w.stmts(b.Stmts)
}

func (w *writer) role(r *api.Role) {
	w.waits = append(w.waits, &r.Line)
	w.put("actor", r.Name)
	w.names(r.Params)
	w.put("{")
	for i := range r.On {
		w.body("on", &r.On[i])
	}
	w.put("}")
}

// program puts functions and roles, in whichever order.
func (w *writer) program(p *api.Program) {
	for fn, role := 0, 0; fn < len(p.Fns) || role < len(p.Roles); {
		if role == len(p.Roles) || fn < len(p.Fns) && w.IntN(2) == 0 {
			w.body("func", &p.Fns[fn])
			fn++
		} else {
			w.role(&p.Roles[role])
			role++
		}
	}
}

// secondShow is what Show is to answer of a right program: another way to tell it.
func secondShow(p api.Program) string {
	var x, e func(e api.Expr) string
	list := func(all []api.Expr) string {
		var texts []string
		for _, kid := range all {
			texts = append(texts, x(kid))
		}
		return "(" + strings.Join(texts, ", ") + ")"
	}
	x = func(of api.Expr) string {
		switch of.Kind {
		case api.EInt:
			return fmt.Sprint(of.N)
		case api.ETruth:
			return []string{"false", "true"}[of.N]
		case api.EText:
			return words.Quote(of.S)
		case api.EName:
			return of.S
		case api.ESelf:
			return "self"
		case api.ETuple:
			return list(of.Kids)
		case api.EAt:
			return fmt.Sprintf("%s[%s]", e(of.Kids[0]), x(of.Kids[1]))
		case api.ELen:
			return fmt.Sprintf("len(%s)", x(of.Kids[0]))
		case api.ECall:
			return fmt.Sprintf("call %s%s", of.S, list(of.Kids))
		case api.ESpawn:
			return fmt.Sprintf("spawn %s%s", of.S, list(of.Kids))
		}
		if len(of.Kids) == 1 {
			return fmt.Sprintf("%s %s", of.S, e(of.Kids[0]))
		}
		return fmt.Sprintf("%s %s %s", e(of.Kids[0]), of.S, e(of.Kids[1]))
	}
	e = func(of api.Expr) string {
		if of.Kind == api.EOp {
			return "(" + x(of) + ")"
		}
		return x(of)
	}
	var lines func(all []api.Stmt) []string
	lines = func(all []api.Stmt) (text []string) {
		for _, s := range all {
			switch s.Kind {
			case api.SLet:
				text = append(text, fmt.Sprintf("let %s = %s;", s.S, x(s.Exprs[0])))
			case api.SSet:
				text = append(text, fmt.Sprintf("set %s = %s;", s.S, x(s.Exprs[0])))
			case api.SIf:
				text = append(text, fmt.Sprintf("if (%s) {", x(s.Exprs[0])))
				text = append(text, deeper(lines(s.Body))...)
				if len(s.Else) > 0 {
					text = append(text, "} else {")
					text = append(text, deeper(lines(s.Else))...)
				}
				text = append(text, "}")
			case api.SWhile:
				text = append(text, fmt.Sprintf("while (%s) {", x(s.Exprs[0])))
				text = append(text, deeper(lines(s.Body))...)
				text = append(text, "}")
			case api.SReturn:
				text = append(text, fmt.Sprintf("return %s;", x(s.Exprs[0])))
			case api.SSend: // as a program may have it: to whom a post
				text = append(text, fmt.Sprintf("send %s %s%s;", e(s.Exprs[0]), s.S, list(s.Exprs[1:])))
			case api.SBecome:
				text = append(text, fmt.Sprintf("become %s%s;", s.S, list(s.Exprs)))
			case api.SStop:
				text = append(text, "stop;")
			case api.SExpr:
				text = append(text, x(s.Exprs[0])+";")
			}
		}
		return text
	}
	bodies := func(key string, all []api.Body) (text []string) {
		for _, b := range all {
			text = append(text, fmt.Sprintf("%s %s(%s) {", key, b.Name, strings.Join(b.Params, ", ")))
			text = append(text, deeper(lines(b.Stmts))...)
			text = append(text, "}")
		}
		return text
	}
	text := bodies("func", p.Fns)
	for _, r := range p.Roles {
		text = append(text, fmt.Sprintf("actor %s(%s) {", r.Name, strings.Join(r.Params, ", ")))
		text = append(text, deeper(bodies("on", r.On))...)
		text = append(text, "}")
	}
	if len(text) == 0 {
		return ""
	}
	return strings.Join(text, "\n") + "\n"
}

// deeper is lines, each one level deeper.
func deeper(lines []string) (text []string) {
	for _, line := range lines {
		text = append(text, "\t"+line)
	}
	return text
}

// P9.1 to P9.3: programs by chance, written in two ways, and back; with the lines of what was written.
func TestByChance(t *testing.T) {
	r := rand.New(rand.NewPCG(9, 2))
	for i := range 4000 {
		m := &maker{Rand: r, left: 10 + r.IntN(200)}
		p := m.program(2 + r.IntN(10))
		if !tree.Right(p) {
			t.Fatalf("%d is not right: %s", i, short(p))
		}
		w := &writer{Rand: r}
		w.program(&p)
		got, f := tree.Parse(w.text.String())
		if len(w.text.String()) > mostSource {
			if f != (api.Fault{Err: api.ErrLong}) {
				t.Fatalf("%d is too long, but %v", i, f)
			}
			continue
		}
		if f != (api.Fault{}) || !reflect.DeepEqual(normal(got, true), normal(p, true)) {
			t.Fatalf("Parse(%q) = %+v, %v; want %+v", w.text.String(), got, f, p)
		}
		s, e := tree.Show(got)
		wanted := secondShow(p)
		if len(wanted) > mostSource {
			if s != "" || e != api.ErrLong {
				t.Fatalf("%d is too long, but %d", i, e)
			}
			continue
		}
		if s != wanted || e != api.OK {
			t.Fatalf("Show = %q, %d; want %q", s, e, wanted)
		}
		again, f := tree.Parse(s)
		if f != (api.Fault{}) || !reflect.DeepEqual(normal(again, false), normal(p, false)) || !tree.Right(again) {
			t.Fatalf("what is shown, %q, is parsed to %+v, %v; want %+v", s, again, f, p)
		}
		if s2, e := tree.Show(again); s2 != s || e != api.OK {
			t.Fatalf("shown again: %q, %d; want %q", s2, e, s)
		}
	}
}

// P9.3: programs that are as deep as they may be.
func TestDeepByChance(t *testing.T) {
	r := rand.New(rand.NewPCG(9, 3))
	for range 300 {
		m := &maker{Rand: r, left: math.MaxInt32}
		e := m.leaf()
		for range mostNest - 2 {
			switch r.IntN(6) {
			case 0:
				e = op("-", e)
			case 1:
				e = op("<", e, m.leaf())
			case 2:
				e = op("*", m.leaf(), e)
			case 3:
				e = place(m.leaf(), e)
			case 4:
				e = place(e, m.leaf())
			case 5:
				e = tuple(m.leaf(), e)
			}
		}
		p := fn(st(api.SSend, "x", e, e))
		s, errno := tree.Show(p)
		if errno != api.OK || s != secondShow(p) {
			t.Fatalf("Show(%+v) = %q, %d", p, s, errno)
		}
		wantProgram(t, s, p)
	}
}

// R1: any bytes end with an answer; what is parsed is right, and is shown and parsed to the same.
func TestAnyBytes(t *testing.T) {
	r := rand.New(rand.NewPCG(9, 4))
	pieces := strings.Fields("func actor on ( ) { } let set if else while return send become stop len call spawn a b 1 2 \"x\" + - ++ * / % ! < <= == = && || [ ] , ; true false self @ # \" \\")
	for range 20000 {
		var text strings.Builder
		text.WriteString([]string{"", "func f() {", "actor c(a) { on x() {", "func f() { return "}[r.IntN(4)])
		for range r.IntN(30) {
			text.WriteString(pieces[r.IntN(len(pieces))] + []string{" ", "", "\n"}[r.IntN(3)])
		}
		text.WriteString([]string{"", "}", "}}", ";}", "; } }"}[r.IntN(5)])
		p, f := tree.Parse(text.String())
		if f.Err != api.OK {
			if p.Fns != nil || p.Roles != nil {
				t.Fatalf("Parse(%q): a program beside %v", text.String(), f)
			}
			continue
		}
		s, e := tree.Show(p)
		if !tree.Right(p) || e != api.OK {
			t.Fatalf("what is parsed of %q is not right", text.String())
		}
		wantProgram(t, s, p)
	}
}
