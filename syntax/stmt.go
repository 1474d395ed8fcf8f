package syntax

import "governor/api"

// outermost is how deep the list of a method or program is nested, and the
// expression of a statement.
const outermost = 1

// list reads the statements of a list that is nested so deep; ended tells whether
// what ends it stands there already.
func (p *parser) list(nested int, ended bool) []api.Stmt {
	if ended || p.beginsStmt() {
		p.depth(nested)
	}
	var list []api.Stmt
	for p.beginsStmt() {
		p.limit(len(list), api.MaxStmts)
		list = append(list, p.stmt(nested))
		p.expect(";")
	}
	return list
}

// beginsStmt tells whether a statement stands there.
func (p *parser) beginsStmt() bool {
	switch p.text() {
	case "THIS", "SUPER", "IF", "CASE", "WHILE", "FOR", "RETURN", "EXIT", "STEP":
		return true
	}
	return p.beginsName()
}

// stmt reads a statement of a list that is nested so deep, but for its `;`.
func (p *parser) stmt(nested int) api.Stmt {
	switch {
	case p.take("IF"):
		return p.branches(nested + 1)
	case p.take("CASE"):
		return p.cases(nested + 1)
	case p.take("WHILE"):
		return p.whileLoop(nested + 1)
	case p.take("FOR"):
		return p.forLoop(nested + 1)
	case p.take("RETURN"):
		return p.answer()
	case p.take("EXIT"):
		return api.Stmt{Kind: api.Exit}
	case p.take("STEP"):
		return p.step()
	case p.beginsName():
		return p.named()
	}
	return do(p.self(outermost))
}

// named reads a statement that begins with a name.
func (p *parser) named() api.Stmt {
	name := p.name()
	switch {
	case p.take(":="):
		return api.Stmt{Kind: api.Assign, Name: name, Exprs: []api.Expr{p.expr(outermost)}}
	case p.take("?="):
		return api.Stmt{Kind: api.Attempt, Name: name, Exprs: []api.Expr{p.expr(outermost)}}
	case p.take("["):
		return p.put(name)
	}
	return do(p.invoke(outermost, api.Expr{Name: name}))
}

// put reads what stands behind a name and `[`.
func (p *parser) put(name string) api.Stmt {
	place := p.expr(outermost)
	p.expect("]", ":=")
	value := p.expr(outermost)
	return api.Stmt{Kind: api.Put, Name: name, Exprs: []api.Expr{place, value}}
}

// do makes a statement of a call.
func do(invoke api.Expr) api.Stmt {
	return api.Stmt{Kind: api.Do, Exprs: []api.Expr{invoke}}
}

// branches reads what stands behind IF; its lists are nested so deep.
func (p *parser) branches(nested int) api.Stmt {
	s := api.Stmt{Kind: api.If}
	for {
		s.Exprs = append(s.Exprs, p.expr(outermost))
		p.expect("THEN")
		s.Blocks = append(s.Blocks, p.list(nested, p.isOne("ELSIF", "ELSE", "END_IF")))
		if !p.is("ELSIF") {
			break
		}
		p.limit(len(s.Exprs), api.MaxParts)
		p.expect("ELSIF")
	}
	s.Blocks = append(s.Blocks, p.otherwise(nested, "END_IF"))
	p.expect("END_IF")
	return s
}

// cases reads what stands behind CASE; its lists are nested so deep.
func (p *parser) cases(nested int) api.Stmt {
	s := api.Stmt{Kind: api.Case, Exprs: []api.Expr{p.expr(outermost)}}
	p.expect("OF")
	for p.beginsInt() {
		p.limit(len(s.Labels), api.MaxParts)
		s.Labels = append(s.Labels, several(p, api.MaxLabels, p.beginsInt, p.int))
		p.expect(":")
		s.Blocks = append(s.Blocks, p.list(nested, p.beginsInt() || p.isOne("ELSE", "END_CASE")))
	}
	s.Blocks = append(s.Blocks, p.otherwise(nested, "END_CASE"))
	p.expect("END_CASE")
	return s
}

// otherwise reads ELSE and its list, which ends at that word, if they stand there.
func (p *parser) otherwise(nested int, end string) []api.Stmt {
	if !p.take("ELSE") {
		return nil
	}
	return p.list(nested, p.is(end))
}

// whileLoop reads what stands behind WHILE; its list is nested so deep.
func (p *parser) whileLoop(nested int) api.Stmt {
	s := api.Stmt{Kind: api.While, Exprs: []api.Expr{p.expr(outermost)}}
	s.Blocks = [][]api.Stmt{p.body(nested, "END_WHILE")}
	return s
}

// forLoop reads what stands behind FOR; its list is nested so deep.
func (p *parser) forLoop(nested int) api.Stmt {
	s := api.Stmt{Kind: api.For, Name: p.name()}
	p.expect(":=")
	from := p.expr(outermost)
	p.expect("TO")
	to := p.expr(outermost)
	s.Exprs = []api.Expr{from, to}
	p.expect("BY")
	s.N = p.int()
	s.Blocks = [][]api.Stmt{p.body(nested, "END_FOR")}
	return s
}

// body reads DO, the list behind it, and the word at which that ends.
func (p *parser) body(nested int, end string) []api.Stmt {
	p.expect("DO")
	list := p.list(nested, p.is(end))
	p.expect(end)
	return list
}

// answer reads what stands behind RETURN.
func (p *parser) answer() api.Stmt {
	s := api.Stmt{Kind: api.Return}
	if !p.is(";") {
		s.Exprs = []api.Expr{p.expr(outermost)}
	}
	return s
}

// step reads what stands behind STEP.
func (p *parser) step() api.Stmt {
	s := api.Stmt{Kind: api.Step, Name: p.name()}
	p.expect("(")
	signal := p.expr(outermost)
	p.expect(",")
	limit := p.expr(outermost)
	p.expect(")")
	s.Exprs = []api.Expr{signal, limit}
	return s
}
