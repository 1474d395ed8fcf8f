package print

import "governor/api"

// operators are the operators' words and signs, each at its number.
var operators = [...]string{
	api.Add: "+", api.Sub: "-", api.Mul: "*", api.Div: "/", api.Mod: "MOD",
	api.Eq: "=", api.Ne: "<>", api.Lt: "<", api.Le: "<=", api.Gt: ">", api.Ge: ">=",
	api.And: "AND", api.Or: "OR", api.Xor: "XOR",
}

// operator answers an operator's word or sign.
func operator(op int) string {
	if op < api.Add || op > api.Xor {
		return none
	}
	return operators[op]
}

// expr writes an expression.
func (l *line) expr(e api.Expr) {
	switch e.Kind {
	case api.Num:
		l.int(e.N)
	case api.True:
		l.put("TRUE")
	case api.False:
		l.put("FALSE")
	case api.Null:
		l.put("NULL")
	case api.Name:
		l.put(e.Name)
	case api.Index:
		l.put(e.Name, "[")
		l.expr(nth(e.Args, 0))
		l.put("]")
	case api.Neg:
		l.put("-")
		l.operand(nth(e.Args, 0))
	case api.Not:
		l.put("NOT")
		l.operand(nth(e.Args, 0))
	case api.Bin:
		l.operand(nth(e.Args, 0))
		l.put(operator(e.N))
		l.operand(nth(e.Args, 1))
	case api.RefOf:
		l.put("REF", "(", e.Name, ")")
	case api.Out:
		l.put("DONE", "(", e.Name, ")")
	case api.Count:
		l.put("COUNT", "(", e.Name, ")")
	case api.Invoke:
		l.invoke(e)
	case api.As:
		l.put("AS", e.Name, "(")
		l.expr(nth(e.Args, 0))
		l.put(")")
	default:
		l.put(none)
	}
}

// operand writes an operand: in brackets, if it has an operator of its own.
func (l *line) operand(e api.Expr) {
	switch e.Kind {
	case api.Neg, api.Not, api.Bin:
		l.put("(")
		l.expr(e)
		l.put(")")
	default:
		l.expr(e)
	}
}

// invoke writes a call of a method.
func (l *line) invoke(e api.Expr) {
	l.put(owner(e), ".", e.What, "(")
	parted(l, e.Args, l.expr)
	l.put(")")
}

// owner answers the word or name of that of which a method is called.
func owner(e api.Expr) string {
	switch e.N {
	case 0:
		return e.Name
	case 1:
		return "THIS"
	case 2:
		return "SUPER"
	}
	return none
}
