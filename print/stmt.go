package print

import "governor/api"

// list writes statements.
func (l *line) list(stmts []api.Stmt) {
	for _, s := range stmts {
		l.stmt(s)
		l.put(";")
	}
}

// stmt writes a statement, but for its `;`.
func (l *line) stmt(s api.Stmt) {
	switch s.Kind {
	case api.Assign:
		l.put(s.Name, ":=")
		l.expr(nth(s.Exprs, 0))
	case api.Put:
		l.put(s.Name, "[")
		l.expr(nth(s.Exprs, 0))
		l.put("]", ":=")
		l.expr(nth(s.Exprs, 1))
	case api.Attempt:
		l.put(s.Name, "?=")
		fallthrough
	case api.Do:
		l.expr(nth(s.Exprs, 0))
	case api.If:
		l.branches(s)
	case api.Case:
		l.cases(s)
	case api.While:
		l.whileLoop(s)
	case api.For:
		l.forLoop(s)
	case api.Return:
		l.put("RETURN")
		if len(s.Exprs) > 0 {
			l.expr(s.Exprs[0])
		}
	case api.Exit:
		l.put("EXIT")
	case api.Step:
		l.step(s)
	default:
		l.put(none)
	}
}

// branches writes an IF: how many alternatives it has its expressions tell.
func (l *line) branches(s api.Stmt) {
	parts := max(1, len(s.Exprs))
	for i := range parts {
		l.put(branchWord(i))
		l.expr(nth(s.Exprs, i))
		l.put("THEN")
		l.list(nth(s.Blocks, i))
	}
	l.otherwise(nth(s.Blocks, parts))
	l.put("END_IF")
}

// branchWord answers the word that begins an alternative of an IF.
func branchWord(part int) string {
	if part == 0 {
		return "IF"
	}
	return "ELSIF"
}

// cases writes a CASE: how many alternatives it has its labels tell.
func (l *line) cases(s api.Stmt) {
	l.put("CASE")
	l.expr(nth(s.Exprs, 0))
	l.put("OF")
	for i, labels := range s.Labels {
		parted(l, labels, l.int)
		l.put(":")
		l.list(nth(s.Blocks, i))
	}
	l.otherwise(nth(s.Blocks, len(s.Labels)))
	l.put("END_CASE")
}

// otherwise writes ELSE and its statements, if there are any.
func (l *line) otherwise(block []api.Stmt) {
	l.flag(len(block) > 0, "ELSE")
	l.list(block)
}

// whileLoop writes a WHILE.
func (l *line) whileLoop(s api.Stmt) {
	l.put("WHILE")
	l.expr(nth(s.Exprs, 0))
	l.put("DO")
	l.list(nth(s.Blocks, 0))
	l.put("END_WHILE")
}

// forLoop writes a FOR.
func (l *line) forLoop(s api.Stmt) {
	l.put("FOR", s.Name, ":=")
	l.expr(nth(s.Exprs, 0))
	l.put("TO")
	l.expr(nth(s.Exprs, 1))
	l.put("BY")
	l.int(s.N)
	l.put("DO")
	l.list(nth(s.Blocks, 0))
	l.put("END_FOR")
}

// step writes a STEP.
func (l *line) step(s api.Stmt) {
	l.put("STEP", s.Name, "(")
	l.expr(nth(s.Exprs, 0))
	l.put(",")
	l.expr(nth(s.Exprs, 1))
	l.put(")")
}
