package typing

import (
	"cmp"

	"governor/api"
)

// formed tells whether an expression is of a kind, and has as many parts as that kind has.
func formed(e api.Expr) bool {
	switch e.Kind {
	case api.Num, api.True, api.False, api.Null, api.Name, api.RefOf, api.Out, api.Count:
		return len(e.Args) == 0
	case api.Index, api.Neg, api.Not, api.As:
		return len(e.Args) == 1
	case api.Bin:
		return len(e.Args) == 2
	}
	return e.Kind == api.Invoke
}

// plain answers the type of that kind of which nothing more is told.
func plain(kind int) api.Type {
	return api.Type{Kind: kind}
}

// expr answers an expression's type, or the code of what is wrong first in it.
func (s *scope) expr(e api.Expr) (api.Type, int) {
	if !formed(e) {
		return api.Type{}, api.Typing
	}
	switch e.Kind {
	case api.Num:
		return plain(api.Int), api.Fine
	case api.True, api.False:
		return plain(api.Bool), api.Fine
	case api.Null:
		return plain(api.Ref), api.Fine
	case api.Name:
		return s.name(e)
	case api.Index:
		return told(plain(api.Int), cmp.Or(s.must(e.Name, api.Array), s.want(e.Args, api.Int)))
	case api.Neg:
		return s.negated(e.Args[0], api.Int)
	case api.Not:
		return s.negated(e.Args[0], api.Bool)
	case api.Bin:
		return s.operated(e)
	case api.RefOf:
		v, code := s.variable(e.Name, api.Inst)
		return told(api.Type{Kind: api.Ref, Name: v.Type.Name}, code)
	case api.Out:
		return told(plain(api.Bool), s.must(e.Name, api.Timer))
	case api.Count:
		return told(plain(api.Int), s.must(e.Name, api.Timer))
	case api.As:
		return s.as(e)
	}
	return s.value(e)
}

// told answers a type, if there is no code beside it.
func told(t api.Type, code int) (api.Type, int) {
	if code != api.Fine {
		return api.Type{}, code
	}
	return t, api.Fine
}

// exprs answers the types of expressions, or the code of what is wrong first in them.
func (s *scope) exprs(list []api.Expr) ([]api.Type, int) {
	types := make([]api.Type, len(list))
	for i, e := range list {
		t, code := s.expr(e)
		if code != api.Fine {
			return nil, code
		}
		types[i] = t
	}
	return types, api.Fine
}

// want answers the code of what is wrong first in expressions, of which each must
// be of its kind: that is asked behind all else.
func (s *scope) want(list []api.Expr, kinds ...int) int {
	types, code := s.exprs(list)
	if code != api.Fine {
		return code
	}
	for i, kind := range kinds {
		if types[i].Kind != kind {
			return api.Typing
		}
	}
	return api.Fine
}

// name answers the type of a variable's value: a part of INT is an INT as soon as it is read.
func (s *scope) name(e api.Expr) (api.Type, int) {
	v, ok := s.vars[e.Name]
	if !ok {
		return api.Type{}, api.Unknown
	}
	switch v.Type.Kind {
	case api.Int, api.Range:
		return plain(api.Int), api.Fine
	case api.Bool:
		return plain(api.Bool), api.Fine
	case api.Ref:
		return v.Type, api.Fine
	}
	return api.Type{}, api.Typing
}

// negated answers the type of what is negated, which must be of that kind: all
// that is told of the type stays, not the kind alone.
func (s *scope) negated(e api.Expr, kind int) (api.Type, int) {
	t, code := s.expr(e)
	if code == api.Fine && t.Kind != kind {
		return api.Type{}, api.Typing
	}
	return t, code
}

// operated answers the type of what an operator makes of two operands.
func (s *scope) operated(e api.Expr) (api.Type, int) {
	types, code := s.exprs(e.Args)
	if code != api.Fine {
		return api.Type{}, code
	}
	left, right := types[0].Kind, types[1].Kind
	result, fit := api.Bool, false
	switch e.N {
	case api.Add, api.Sub, api.Mul, api.Div, api.Mod:
		result = api.Int
		fallthrough
	case api.Lt, api.Le, api.Gt, api.Ge:
		fit = left == api.Int && right == api.Int
	case api.And, api.Or, api.Xor:
		fit = left == api.Bool && right == api.Bool
	case api.Eq, api.Ne:
		fit = left == right && (left == api.Int || left == api.Bool || left == api.Ref)
	}
	if !fit {
		return api.Type{}, api.Typing
	}
	return plain(result), api.Fine
}

// as answers the type of a reference that is taken as one to another class or interface.
func (s *scope) as(e api.Expr) (api.Type, int) {
	if _, ok := s.unit.Type(e.Name); !ok {
		return api.Type{}, api.Unknown
	}
	return told(api.Type{Kind: api.Ref, Name: e.Name}, s.want(e.Args, api.Ref))
}
