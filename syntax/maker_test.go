package syntax_test

import (
	"math/rand"
	"strconv"
	"strings"

	"governor/api"
)

// maker makes trees by chance, and writes down the tokens of each part as it is made.
type maker struct {
	*rand.Rand
	tokens []string
	begins []int // which token each declaration begins with
	few    int   // how many of a list there are at most
	deep   int   // how deep something is nested at most
}

// put writes tokens down, a blank between them.
func (m *maker) put(text string) {
	m.tokens = append(m.tokens, strings.Fields(text)...)
}

func (m *maker) maybe() bool { return m.Intn(2) == 0 }

// count is how many there are of what may be so many.
func (m *maker) count(most int) int { return m.Intn(min(most, m.few) + 1) }

func (m *maker) name() string {
	name := []string{"a", "b", "c_1", "dDD", "eight8", "f", "xINTx", "y_END_IF"}[m.Intn(8)]
	m.put(name)
	return name
}

func (m *maker) number() int {
	n := []int{0, 1, 2, 7, 99, 1000, 32767, 32768}[m.Intn(8)]
	m.put(strconv.Itoa(n))
	return n
}

func (m *maker) int() int {
	if m.maybe() {
		m.put("-")
		return -m.number()
	}
	return m.number()
}

func (m *maker) flag(word string) bool {
	if m.maybe() {
		m.put(word)
		return true
	}
	return false
}

// parted makes so many things, with commas between.
func parted[T any](m *maker, count int, one func() T) []T {
	var list []T
	for i := range count {
		if i > 0 {
			m.put(",")
		}
		list = append(list, one())
	}
	return list
}

func (m *maker) unit() api.Unit {
	var u api.Unit
	for range m.count(12) {
		m.begins = append(m.begins, len(m.tokens))
		u.Decls = append(u.Decls, m.decl())
	}
	return u
}

func (m *maker) decl() api.Decl {
	switch m.Intn(4) {
	case 0:
		m.put("INTERFACE")
		d := api.Decl{Kind: 1, Name: m.name()}
		m.put(";")
		for range m.count(6) {
			m.put("METHOD")
			d.Methods = append(d.Methods, m.head(api.Method{}))
		}
		m.put("END_INTERFACE")
		return d
	case 1:
		return m.class()
	case 2:
		m.put("PROGRAM")
		d := api.Decl{Kind: 3, Name: m.name()}
		m.put(";")
		d.Vars = m.vars()
		d.Body = m.list(1)
		m.put("END_PROGRAM")
		return d
	}
	m.put("TASK")
	d := api.Decl{Kind: 4, Name: m.name()}
	m.put("( INTERVAL")
	d.Every = m.number()
	m.put(", PRIORITY")
	d.First = m.number()
	m.put(") :")
	d.Base = m.name()
	m.put(";")
	return d
}

func (m *maker) class() api.Decl {
	m.put("CLASS")
	d := api.Decl{Kind: 2, Abstract: m.flag("ABSTRACT"), Final: m.flag("FINAL")}
	d.Name = m.name()
	if m.flag("EXTENDS") {
		d.Base = m.name()
	}
	if m.flag("IMPLEMENTS") {
		d.Faces = parted(m, 1+m.Intn(min(4, m.few)), m.name)
	}
	m.put(";")
	d.Vars = m.vars()
	for range m.count(6) {
		m.put("METHOD")
		x := m.head(api.Method{Over: m.flag("OVERRIDE"), Abstract: m.flag("ABSTRACT"), Final: m.flag("FINAL")})
		x.Vars = m.vars()
		x.Body = m.list(1)
		m.put("END_METHOD")
		d.Methods = append(d.Methods, x)
	}
	m.put("END_CLASS")
	return d
}

func (m *maker) head(x api.Method) api.Method {
	x.Name = m.name()
	m.put("(")
	x.Params = parted(m, m.count(3), m.param)
	m.put(")")
	if m.flag(":") {
		x.Result = m.typeOf()
	}
	m.put(";")
	return x
}

func (m *maker) param() api.Var {
	v := api.Var{Name: m.name()}
	m.put(":")
	v.Type = m.typeOf()
	return v
}

func (m *maker) vars() []api.Var {
	var vars []api.Var
	for range m.count(8) {
		m.put("VAR")
		v := m.param()
		if m.flag(":=") {
			v.Init = m.int()
		}
		if m.flag("AT") {
			v.Dir = 1 + m.Intn(2)
			m.put([]string{"IN", "OUT"}[v.Dir-1])
			v.Slot = m.number()
		}
		m.put(";")
		vars = append(vars, v)
	}
	return vars
}

func (m *maker) typeOf() api.Type {
	switch m.Intn(7) {
	case 0:
		m.put("INT")
		return api.Type{Kind: 1}
	case 1:
		m.put("BOOL")
		return api.Type{Kind: 2}
	case 2:
		m.put("INT (")
		t := api.Type{Kind: 3, Lo: m.int()}
		m.put("..")
		t.Hi = m.int()
		m.put(")")
		return t
	case 3:
		m.put("ARRAY [")
		t := api.Type{Kind: 4, Hi: m.number()}
		m.put("] OF INT")
		return t
	case 4:
		m.put("REF_TO")
		return api.Type{Kind: 5, Name: m.name()}
	case 5:
		return api.Type{Kind: 6, Name: m.name()}
	}
	which := m.Intn(7)
	m.put([]string{"TON", "TOF", "TP", "CTU", "CTD", "R_TRIG", "F_TRIG"}[which])
	return api.Type{Kind: 7, Lo: which + 1}
}

// list makes statements of a list that is nested so deep.
func (m *maker) list(nested int) []api.Stmt {
	var list []api.Stmt
	for range m.count(24) {
		list = append(list, m.stmt(nested))
		m.put(";")
	}
	return list
}

// stmt makes a statement: one that has lists of its own only where they may be nested so deep.
func (m *maker) stmt(nested int) api.Stmt {
	if nested < m.deep && m.Intn(3) == 0 {
		return m.nest(nested + 1)
	}
	switch m.Intn(7) {
	case 0:
		s := api.Stmt{Kind: 1, Name: m.name()}
		m.put(":=")
		s.Exprs = []api.Expr{m.expr(1)}
		return s
	case 1:
		s := api.Stmt{Kind: 2, Name: m.name()}
		m.put("[")
		s.Exprs = []api.Expr{m.expr(1)}
		m.put("] :=")
		s.Exprs = append(s.Exprs, m.expr(1))
		return s
	case 2:
		s := api.Stmt{Kind: 3, Name: m.name()}
		m.put("?=")
		s.Exprs = []api.Expr{m.expr(1)}
		return s
	case 3:
		return api.Stmt{Kind: 4, Exprs: []api.Expr{m.invoke(1)}}
	case 4:
		m.put("RETURN")
		s := api.Stmt{Kind: 9}
		if m.maybe() {
			s.Exprs = []api.Expr{m.expr(1)}
		}
		return s
	case 5:
		m.put("EXIT")
		return api.Stmt{Kind: 10}
	}
	m.put("STEP")
	s := api.Stmt{Kind: 11, Name: m.name()}
	m.put("(")
	s.Exprs = parted(m, 2, func() api.Expr { return m.expr(1) })
	m.put(")")
	return s
}

// nest makes a statement whose lists are nested so deep.
func (m *maker) nest(nested int) api.Stmt {
	switch m.Intn(4) {
	case 0:
		s := api.Stmt{Kind: 5}
		for i := range 1 + m.Intn(min(6, m.few)) {
			m.put([]string{"IF", "ELSIF"}[min(i, 1)])
			s.Exprs = append(s.Exprs, m.expr(1))
			m.put("THEN")
			s.Blocks = append(s.Blocks, m.list(nested))
		}
		s.Blocks = append(s.Blocks, m.otherwise(nested))
		m.put("END_IF")
		return s
	case 1:
		m.put("CASE")
		s := api.Stmt{Kind: 6, Exprs: []api.Expr{m.expr(1)}}
		m.put("OF")
		for range m.count(6) {
			s.Labels = append(s.Labels, parted(m, 1+m.Intn(min(8, m.few)), m.int))
			m.put(":")
			s.Blocks = append(s.Blocks, m.list(nested))
		}
		s.Blocks = append(s.Blocks, m.otherwise(nested))
		m.put("END_CASE")
		return s
	case 2:
		m.put("WHILE")
		s := api.Stmt{Kind: 7, Exprs: []api.Expr{m.expr(1)}}
		m.put("DO")
		s.Blocks = [][]api.Stmt{m.list(nested)}
		m.put("END_WHILE")
		return s
	}
	m.put("FOR")
	s := api.Stmt{Kind: 8, Name: m.name()}
	m.put(":=")
	s.Exprs = []api.Expr{m.expr(1)}
	m.put("TO")
	s.Exprs = append(s.Exprs, m.expr(1))
	m.put("BY")
	s.N = m.int()
	m.put("DO")
	s.Blocks = [][]api.Stmt{m.list(nested)}
	m.put("END_FOR")
	return s
}

func (m *maker) otherwise(nested int) []api.Stmt {
	if m.flag("ELSE") {
		return m.list(nested)
	}
	return nil
}

// expr makes an expression that is nested so deep.
func (m *maker) expr(nested int) api.Expr {
	switch m.Intn(5) {
	case 0:
		m.put("-")
		return api.Expr{Kind: 7, Args: []api.Expr{m.operand(nested)}}
	case 1:
		m.put("NOT")
		return api.Expr{Kind: 8, Args: []api.Expr{m.operand(nested)}}
	case 2:
		return m.operand(nested)
	}
	left := m.operand(nested)
	which := m.Intn(14)
	m.put(strings.Fields("+ - * / MOD = <> < <= > >= AND OR XOR")[which])
	return api.Expr{Kind: 9, N: which + 1, Args: []api.Expr{left, m.operand(nested)}}
}

// operand makes an operand of an expression that is nested so deep.
func (m *maker) operand(nested int) api.Expr {
	if nested < m.deep && m.maybe() {
		return m.outer(nested)
	}
	switch m.Intn(8) {
	case 0:
		return api.Expr{Kind: 1, N: m.number()}
	case 1:
		m.put("TRUE")
		return api.Expr{Kind: 2}
	case 2:
		m.put("FALSE")
		return api.Expr{Kind: 3}
	case 3:
		m.put("NULL")
		return api.Expr{Kind: 4}
	case 4:
		return api.Expr{Kind: 5, Name: m.name()}
	}
	which := m.Intn(3)
	m.put([]string{"REF (", "DONE (", "COUNT ("}[which])
	e := api.Expr{Kind: 10 + which, Name: m.name()}
	m.put(")")
	return e
}

// outer makes an operand that has expressions in it.
func (m *maker) outer(nested int) api.Expr {
	switch m.Intn(4) {
	case 0:
		m.put("(")
		e := m.expr(nested + 1)
		m.put(")")
		return e
	case 1:
		e := api.Expr{Kind: 6, Name: m.name()}
		m.put("[")
		e.Args = []api.Expr{m.expr(nested + 1)}
		m.put("]")
		return e
	case 2:
		m.put("AS")
		e := api.Expr{Kind: 14, Name: m.name()}
		m.put("(")
		e.Args = []api.Expr{m.expr(nested + 1)}
		m.put(")")
		return e
	}
	return m.invoke(nested)
}

func (m *maker) invoke(nested int) api.Expr {
	e := api.Expr{Kind: 13, N: m.Intn(3)}
	switch e.N {
	case 0:
		e.Name = m.name()
	case 1:
		m.put("THIS")
	case 2:
		m.put("SUPER")
	}
	m.put(".")
	e.What = m.name()
	m.put("(")
	e.Args = parted(m, m.count(3), func() api.Expr { return m.expr(nested + 1) })
	m.put(")")
	return e
}

// written puts blanks and comments between the tokens, where they must stand and
// by chance elsewhere, and answers the source and where each token begins.
func (m *maker) written() (string, []int) {
	var b strings.Builder
	var places []int
	for i, token := range m.tokens {
		if i > 0 && !m.apart(m.tokens[i-1], token) || m.Intn(8) == 0 {
			b.WriteString([]string{" ", "\n", "\t\r\n ", "(**)", " (* ; *) "}[m.Intn(5)])
		}
		places = append(places, b.Len())
		b.WriteString(token)
	}
	b.WriteString([]string{"", " ", "\n(* END *)"}[m.Intn(3)])
	return b.String(), places
}

// apart tells, by chance, that two tokens stand side by side: never where they would be read as others.
func (m *maker) apart(a, b string) bool {
	plain := strings.Contains(") ] ; ,", a) || strings.Contains("( ) [ ] ; ,", b)
	return plain && a+b != "(*" && m.Intn(4) > 0
}
