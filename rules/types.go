package rules

import "governor/api"

// mayHand tells whether a parameter may be of a type.
func (x asked) mayHand(t api.Type) bool {
	switch t.Kind {
	case api.Int, api.Bool:
		return true
	case api.Ref:
		_, ok := x.index.Type(t.Name)
		return ok
	}
	return false
}

// mayKeep tells whether a field, or a method's variable, may be of a type.
func (x asked) mayKeep(t api.Type) bool {
	switch t.Kind {
	case api.Range:
		return t.Lo >= api.Lowest && t.Hi <= api.Highest && t.Lo <= t.Hi
	case api.Array:
		return between(t.Hi, 0, api.MaxArray-1)
	}
	return x.mayHand(t)
}

// mayHold tells whether a program's variable may be of a type.
func (x asked) mayHold(t api.Type) bool {
	switch t.Kind {
	case api.Inst:
		d, ok := x.named(t.Name, api.Class)
		return ok && !x.unit.Decls[d].Abstract
	case api.Timer:
		return between(t.Lo, api.TON, api.FTrig)
	}
	return x.mayKeep(t)
}

// mayAnswer tells whether a result may be of a type.
func mayAnswer(t api.Type) bool {
	return t.Kind == api.None || t.Kind == api.Int || t.Kind == api.Bool
}

// mayStart tells whether a variable may be what it is at first.
func mayStart(v api.Var) bool {
	switch v.Type.Kind {
	case api.Int:
		return between(v.Init, api.Lowest, api.Highest)
	case api.Bool:
		return between(v.Init, 0, 1)
	case api.Range:
		return between(v.Init, v.Type.Lo, v.Type.Hi)
	}
	return v.Init == 0
}

func mayNotStart(v api.Var) bool { return !mayStart(v) }
