package rules

import (
	"slices"

	"governor/api"
)

// hasOddVar tells whether a program's variable has a type that may not be, or comes from, or goes, where it may not.
func (x asked) hasOddVar() bool {
	return slices.ContainsFunc(x.decl.Vars, func(v api.Var) bool {
		return !x.mayHold(v.Type) || !mayLink(v)
	})
}

// mayLink tells whether a program's variable may come from, or go, where it does.
func mayLink(v api.Var) bool {
	return v.Dir == 0 || between(v.Dir, 1, 2) && (v.Type.Kind == api.Int || v.Type.Kind == api.Bool)
}

// hasOddVarStart tells whether a program's variable may not be what it is at first.
func (x asked) hasOddVarStart() bool {
	return slices.ContainsFunc(x.decl.Vars, mayNotStart)
}

// hasOddSlot tells whether an input or output is none, or an output is another variable's.
func (x asked) hasOddSlot() bool {
	taken := map[int]struct{}{}
	for _, program := range x.ahead(api.Program) {
		for _, v := range program.Vars {
			if v.Dir == 2 {
				taken[v.Slot] = struct{}{}
			}
		}
	}
	for _, v := range x.decl.Vars {
		if v.Dir != 0 && !between(v.Slot, 0, api.MaxSlots-1) {
			return true
		}
		if v.Dir != 2 {
			continue
		}
		if _, ok := taken[v.Slot]; ok {
			return true
		}
		taken[v.Slot] = struct{}{}
	}
	return false
}

// hasVarAgain tells whether two of a program's variables have one name.
func (x asked) hasVarAgain() bool {
	return again(x.decl.Vars, nameOfVar)
}

// hasOddProgram tells whether a task is of what is no program ahead of it, or of one that has a task.
func (x asked) hasOddProgram() bool {
	program, ok := x.named(x.decl.Base, api.Program)
	sameBase := func(task api.Decl) bool { return task.Base == x.decl.Base }
	return !ok || program >= x.at || slices.ContainsFunc(x.ahead(api.TaskOf), sameBase)
}

// hasOddTimes tells whether a task's interval, or its priority, may not be.
func (x asked) hasOddTimes() bool {
	return !between(x.decl.Every, 1, api.MaxEvery) || !between(x.decl.First, 0, api.MaxFirst)
}
