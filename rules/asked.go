package rules

import (
	"slices"

	"governor/api"
	"governor/lookup"
	"governor/typing"
)

// asked is a declaration of which rules are asked.
type asked struct {
	unit  api.Unit
	index *lookup.Index
	at    int
	decl  api.Decl
}

// named answers the declaration of that name; false, if it is of another kind, or there is none.
func (x asked) named(name string, kind int) (int, bool) {
	d := x.index.Find(name)
	return d, d >= 0 && x.unit.Decls[d].Kind == kind
}

// ahead answers the declarations ahead of it that are of a kind.
func (x asked) ahead(kind int) []api.Decl {
	var list []api.Decl
	for _, d := range x.unit.Decls[:x.at] {
		if d.Kind == kind {
			list = append(list, d)
		}
	}
	return list
}

// isGreat tells whether it stands behind as many as there may be, or has more than it may have.
func (x asked) isGreat() bool {
	return x.at >= api.MaxDecls || len(x.decl.Methods) > api.MaxMethods || len(x.decl.Faces) > api.MaxFaces || len(x.decl.Vars) > api.MaxVars ||
		slices.ContainsFunc(x.decl.Methods, isGreatMethod)
}

func isGreatMethod(m api.Method) bool {
	return len(m.Params) > api.MaxParams || len(m.Vars) > api.MaxVars
}

// isNamedAgain tells whether one ahead of it has its name.
func (x asked) isNamedAgain() bool {
	return x.index.Find(x.decl.Name) < x.at
}

// bodies answers the code of what is wrong first in what it executes.
func (x asked) bodies() int {
	if x.decl.Kind == api.Program {
		return typing.Stmts(x.unit, api.Where{Decl: x.at, Method: -1}, x.decl.Body)
	}
	if x.decl.Kind != api.Class {
		return api.Fine
	}
	for i, m := range x.decl.Methods {
		if m.Abstract {
			continue
		}
		if c := typing.Stmts(x.unit, api.Where{Decl: x.at, Method: i}, m.Body); c != api.Fine {
			return c
		}
	}
	return api.Fine
}

// between tells whether n is neither below one number nor above the other.
func between(n, lowest, highest int) bool {
	return lowest <= n && n <= highest
}

// again tells whether two of a list have one name.
func again[T any](list []T, name func(T) string) bool {
	met := make(map[string]struct{}, len(list))
	for _, one := range list {
		if _, ok := met[name(one)]; ok {
			return true
		}
		met[name(one)] = struct{}{}
	}
	return false
}

func nameOfVar(v api.Var) string { return v.Name }

func nameOfMethod(m api.Method) string { return m.Name }
