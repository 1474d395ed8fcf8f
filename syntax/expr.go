package syntax

import "governor/api"

// operators are the operators' words and signs, each at its number.
var operators = [...]string{
	api.Add: "+", api.Sub: "-", api.Mul: "*", api.Div: "/", api.Mod: "MOD",
	api.Eq: "=", api.Ne: "<>", api.Lt: "<", api.Le: "<=", api.Gt: ">", api.Ge: ">=",
	api.And: "AND", api.Or: "OR", api.Xor: "XOR",
}

// expr reads an expression that is nested so deep.
func (p *parser) expr(nested int) api.Expr {
	if p.beginsExpr() {
		p.depth(nested)
	}
	if p.take("-") {
		return api.Expr{Kind: api.Neg, Args: []api.Expr{p.operand(nested)}}
	}
	if p.take("NOT") {
		return api.Expr{Kind: api.Not, Args: []api.Expr{p.operand(nested)}}
	}
	left := p.operand(nested)
	operator := operatorOf(p.text())
	if operator == 0 {
		return left
	}
	p.next()
	right := p.operand(nested)
	return api.Expr{Kind: api.Bin, N: operator, Args: []api.Expr{left, right}}
}

// beginsExpr tells whether an expression stands there.
func (p *parser) beginsExpr() bool {
	switch p.text() {
	case "-", "NOT", "(", "AS", "REF", "DONE", "COUNT", "THIS", "SUPER", "TRUE", "FALSE", "NULL":
		return true
	}
	return p.kind() == api.Digit || p.beginsName()
}

// operatorOf answers which operator a word or sign is: 0, if it is none.
func operatorOf(text string) int {
	for number, operator := range operators {
		if operator == text {
			return number
		}
	}
	return 0
}

// operand reads an operand of an expression that is nested so deep.
func (p *parser) operand(nested int) api.Expr {
	switch {
	case p.kind() == api.Digit:
		return api.Expr{Kind: api.Num, N: p.number()}
	case p.beginsName():
		return p.access(nested)
	case p.take("("):
		e := p.expr(nested + 1)
		p.expect(")")
		return e
	case p.take("AS"):
		return p.as(nested)
	case p.take("REF"):
		return p.inside(api.RefOf)
	case p.take("DONE"):
		return p.inside(api.Out)
	case p.take("COUNT"):
		return p.inside(api.Count)
	case p.is("THIS"), p.is("SUPER"):
		return p.self(nested)
	}
	return p.literal()
}

// access reads a name, and what of it is meant.
func (p *parser) access(nested int) api.Expr {
	e := api.Expr{Kind: api.Name, Name: p.name()}
	if p.is(".") {
		return p.invoke(nested, e)
	}
	if p.take("[") {
		e.Kind = api.Index
		e.Args = []api.Expr{p.expr(nested + 1)}
		p.expect("]")
	}
	return e
}

// as reads what stands behind AS.
func (p *parser) as(nested int) api.Expr {
	e := api.Expr{Kind: api.As, Name: p.name()}
	p.expect("(")
	e.Args = []api.Expr{p.expr(nested + 1)}
	p.expect(")")
	return e
}

// inside reads a name in brackets, of an expression of that kind.
func (p *parser) inside(kind int) api.Expr {
	p.expect("(")
	e := api.Expr{Kind: kind, Name: p.name()}
	p.expect(")")
	return e
}

// literal reads a word that is a value.
func (p *parser) literal() api.Expr {
	switch {
	case p.take("TRUE"):
		return api.Expr{Kind: api.True}
	case p.take("FALSE"):
		return api.Expr{Kind: api.False}
	case p.take("NULL"):
		return api.Expr{Kind: api.Null}
	}
	p.fail(errSyntax)
	return api.Expr{}
}

// self reads a call of a method of THIS, or of SUPER.
func (p *parser) self(nested int) api.Expr {
	if p.take("THIS") {
		return p.invoke(nested, api.Expr{N: 1})
	}
	p.expect("SUPER")
	return p.invoke(nested, api.Expr{N: 2})
}

// invoke reads what stands behind that of which a method is called; of tells which that is.
func (p *parser) invoke(nested int, of api.Expr) api.Expr {
	e := of
	e.Kind = api.Invoke
	p.expect(".")
	e.What = p.name()
	p.expect("(")
	if !p.is(")") {
		e.Args = several(p, api.MaxParams, p.beginsExpr, func() api.Expr { return p.expr(nested + 1) })
	}
	p.expect(")")
	return e
}
