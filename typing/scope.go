package typing

import (
	"slices"

	"governor/api"
	"governor/lookup"
)

// scope is what holds at one place of a unit.
type scope struct {
	unit   *lookup.Index
	decls  []api.Decl
	place  api.Where
	vars   map[string]api.Var // what each name stands for
	result api.Type           // what the method answers: None of a program's body
}

// scopeAt answers what holds at a place: nil, if it is no method of a class and no program's body.
func scopeAt(u api.Unit, w api.Where) *scope {
	s := &scope{unit: lookup.Of(u), decls: u.Decls, place: w}
	switch {
	case isMethod(u, w):
		s.result = u.Decls[w.Decl].Methods[w.Method].Result
	case !isBody(u, w):
		return nil
	}
	visible := Visible(u, w)
	s.vars = make(map[string]api.Var, len(visible))
	// The first one of a name is kept last.
	for _, v := range slices.Backward(visible) {
		s.vars[v.Name] = v
	}
	return s
}

// isMethod tells whether a place is a method of a class.
func isMethod(u api.Unit, w api.Where) bool {
	return isOf(u, w.Decl, api.Class) && w.Method >= 0 && w.Method < len(u.Decls[w.Decl].Methods)
}

// isBody tells whether a place is a program's body.
func isBody(u api.Unit, w api.Where) bool {
	return isOf(u, w.Decl, api.Program) && w.Method == -1
}

// isOf tells whether d is a declaration's number, and that one of a kind.
func isOf(u api.Unit, d int, kind int) bool {
	return d >= 0 && d < len(u.Decls) && u.Decls[d].Kind == kind
}

// inMethod tells whether there is an instance that is executing.
func (s *scope) inMethod() bool {
	return s.place.Method >= 0
}

// variable answers what a name stands for; Unknown, if that is nothing, Typing, if it is of another kind.
func (s *scope) variable(name string, kind int) (api.Var, int) {
	v, ok := s.vars[name]
	if !ok {
		return api.Var{}, api.Unknown
	}
	if v.Type.Kind != kind {
		return api.Var{}, api.Typing
	}
	return v, api.Fine
}

// must answers the code of a name that must stand for what is of that kind.
func (s *scope) must(name string, kind int) int {
	_, code := s.variable(name, kind)
	return code
}

// fits tells whether what is of one type may be kept by what is of another.
func fits(unit *lookup.Index, to, from api.Type) bool {
	switch to.Kind {
	case api.Range:
		// Whether it is from Lo to Hi is asked when it is stored.
		fallthrough
	case api.Int:
		return from.Kind == api.Int
	case api.Bool:
		return from.Kind == api.Bool
	case api.Ref:
		return from.Kind == api.Ref && (from.Name == "" || from.Name == to.Name || unit.Is(from.Name, to.Name))
	}
	return false
}
