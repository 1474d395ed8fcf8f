package rules

import (
	"slices"

	"governor/api"
	"governor/table"
	"governor/typing"
)

// hasOddBase tells whether a class extends what is no class ahead of it, or one that may not be extended.
func (x asked) hasOddBase() bool {
	if x.decl.Base == "" {
		return false
	}
	base, ok := x.named(x.decl.Base, api.Class)
	return !ok || base >= x.at || x.unit.Decls[base].Final
}

// hasOddFace tells whether a class implements what is no interface, or one twice.
func (x asked) hasOddFace() bool {
	for _, name := range x.decl.Faces {
		if _, ok := x.named(name, api.Interface); !ok {
			return true
		}
	}
	return again(x.decl.Faces, func(name string) string { return name })
}

// hasOddMember tells whether a field, or a method, has a type that may not be, or something is to come from outside.
func (x asked) hasOddMember() bool {
	oddParts := func(m api.Method) bool {
		return slices.ContainsFunc(m.Params, isLinked) || slices.ContainsFunc(m.Vars, x.isOddMember)
	}
	return slices.ContainsFunc(x.decl.Vars, x.isOddMember) || x.hasOddSignature() || slices.ContainsFunc(x.decl.Methods, oddParts)
}

func (x asked) isOddMember(v api.Var) bool {
	return isLinked(v) || !x.mayKeep(v.Type)
}

func isLinked(v api.Var) bool { return v.Dir != 0 }

// hasOddStart tells whether a field, or a method's variable, may not be what it is at first.
func (x asked) hasOddStart() bool {
	oddVar := func(m api.Method) bool { return slices.ContainsFunc(m.Vars, mayNotStart) }
	return slices.ContainsFunc(x.decl.Vars, mayNotStart) || slices.ContainsFunc(x.decl.Methods, oddVar)
}

// hasMemberAgain tells whether two fields, two methods, or two variables of a method have one name.
func (x asked) hasMemberAgain() bool {
	if again(x.index.Fields(x.at), nameOfVar) || again(x.decl.Methods, nameOfMethod) {
		return true
	}
	for i := range x.decl.Methods {
		if again(typing.Visible(x.unit, api.Where{Decl: x.at, Method: i}), nameOfVar) {
			return true
		}
	}
	return false
}

// isHalfMade tells whether something is abstract that may not be.
func (x asked) isHalfMade() bool {
	if x.decl.Abstract && x.decl.Final || slices.ContainsFunc(x.decl.Methods, x.isHalfMadeMethod) {
		return true
	}
	if x.decl.Abstract {
		return false
	}
	for _, m := range x.methods() {
		if m.Abstract {
			return true
		}
	}
	return false
}

func (x asked) isHalfMadeMethod(m api.Method) bool {
	return m.Abstract && (m.Final || len(m.Vars) > 0 || len(m.Body) > 0 || !x.decl.Abstract)
}

// methods answers what table.Method finds of a class: a base may have any
// number of them, so that they are not looked for one by one.
func (x asked) methods() map[string]api.Method {
	found := map[string]api.Method{}
	for _, d := range slices.Backward(x.index.Chain(x.at)) {
		for _, m := range slices.Backward(x.unit.Decls[d].Methods) {
			found[m.Name] = m
		}
	}
	return found
}

// hasOddOver tells whether a method overrides what it may not, or nothing, or does so without saying it.
func (x asked) hasOddOver() bool {
	return slices.ContainsFunc(x.decl.Methods, x.isOddOver)
}

func (x asked) isOddOver(m api.Method) bool {
	base, found := x.inBase(m.Name)
	return m.Over != found || found && (base.Final || !table.Alike(base, m))
}

// inBase answers the method of that name that a class would have from its base; false, if there is none.
func (x asked) inBase(name string) (api.Method, bool) {
	chain := x.index.Chain(x.at)
	if len(chain) == 1 {
		return api.Method{}, false
	}
	w, ok := x.index.Method(chain[1], name)
	if !ok {
		return api.Method{}, false
	}
	return x.unit.Decls[w.Decl].Methods[w.Method], true
}

// lacksFace tells whether a class has no such method as one of its interfaces tells.
func (x asked) lacksFace() bool {
	methods := x.methods()
	lacks := func(told api.Method) bool {
		m, ok := methods[told.Name]
		return !ok || !table.Alike(m, told)
	}
	for _, face := range x.index.Faces(x.at) {
		if slices.ContainsFunc(x.unit.Decls[face].Methods, lacks) {
			return true
		}
	}
	return false
}
