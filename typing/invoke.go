package typing

import "governor/api"

// value answers the type of what a called method answers: one that answers nothing has no value.
func (s *scope) value(e api.Expr) (api.Type, int) {
	t, code := s.invoke(e)
	if code == api.Fine && t.Kind == api.None {
		return api.Type{}, api.Typing
	}
	return t, code
}

// invoke answers the type of what a called method answers, None among them.
func (s *scope) invoke(e api.Expr) (api.Type, int) {
	m, code := s.method(e)
	if code != api.Fine {
		return api.Type{}, code
	}
	types, code := s.exprs(e.Args)
	if code != api.Fine {
		return api.Type{}, code
	}
	if !s.handed(m.Params, types) {
		return api.Type{}, api.Call
	}
	return m.Result, api.Fine
}

// handed tells whether a method of such parameters may be handed what is of such types.
func (s *scope) handed(params []api.Var, types []api.Type) bool {
	if len(params) != len(types) {
		return false
	}
	for i := range params {
		if !fits(s.unit, params[i].Type, types[i]) {
			return false
		}
	}
	return true
}

// method answers which method is called.
func (s *scope) method(e api.Expr) (api.Method, int) {
	d, code := s.owner(e)
	if code != api.Fine {
		return api.Method{}, code
	}
	w, ok := s.unit.Method(d, e.What)
	if !ok {
		return api.Method{}, api.Call
	}
	m := s.decls[w.Decl].Methods[w.Method]
	if e.N == 2 && m.Abstract {
		// Of SUPER nothing overrides it: there would be nothing to execute.
		return api.Method{}, api.Call
	}
	return m, api.Fine
}

// owner answers the class or interface of which a method is called.
func (s *scope) owner(e api.Expr) (int, int) {
	switch e.N {
	case 0:
		return s.typeOf(e.Name)
	case 1:
		if s.inMethod() {
			return s.place.Decl, api.Fine
		}
		return 0, api.Call
	case 2:
		// A program has no chain at all.
		if chain := s.unit.Chain(s.place.Decl); len(chain) > 1 {
			return chain[1], api.Fine
		}
		return 0, api.Call
	}
	return 0, api.Typing
}

// typeOf answers the class or interface of the instance that a variable is, or refers to.
func (s *scope) typeOf(name string) (int, int) {
	v, ok := s.vars[name]
	if !ok {
		return 0, api.Unknown
	}
	if v.Type.Kind != api.Inst && (v.Type.Kind != api.Ref || v.Type.Name == "") {
		return 0, api.Typing
	}
	d, ok := s.unit.Type(v.Type.Name)
	if !ok {
		return 0, api.Unknown
	}
	return d, api.Fine
}
