package rules

import (
	"slices"

	"governor/api"
)

// hasOddSignature tells whether one of its methods is handed, or answers, what may not be.
func (x asked) hasOddSignature() bool {
	return slices.ContainsFunc(x.decl.Methods, x.isOddSignature)
}

func (x asked) isOddSignature(m api.Method) bool {
	oddParam := func(p api.Var) bool { return !x.mayHand(p.Type) }
	return !mayAnswer(m.Result) || slices.ContainsFunc(m.Params, oddParam)
}

// hasNameAgain tells whether two of an interface's methods, or two parameters of one, have one name.
func (x asked) hasNameAgain() bool {
	hasParamAgain := func(m api.Method) bool { return again(m.Params, nameOfVar) }
	return again(x.decl.Methods, nameOfMethod) || slices.ContainsFunc(x.decl.Methods, hasParamAgain)
}
