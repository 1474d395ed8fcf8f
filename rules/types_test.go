package rules_test

import (
	"fmt"
	"math"
	"testing"

	"governor/api"
)

// The places at which a type stands: a result, a parameter, what a class keeps, what a program holds.
const (
	result    = 1
	parameter = 2
	kept      = 4
	held      = 8
)

// spots are all declared variables and results of the sound unit's classes, interfaces and programs, by what they are.
func spots() map[int][]func(l []api.Decl) *api.Var {
	return map[int][]func(l []api.Decl) *api.Var{
		parameter: {
			func(l []api.Decl) *api.Var { return &l[faceI].Methods[1].Params[0] },
			func(l []api.Decl) *api.Var { return &l[faceI].Methods[1].Params[1] },
			func(l []api.Decl) *api.Var { return &l[classA].Methods[1].Params[1] },
			func(l []api.Decl) *api.Var { return &l[classB].Methods[2].Params[0] },
		},
		kept: {
			func(l []api.Decl) *api.Var { return &l[classA].Vars[1] },
			func(l []api.Decl) *api.Var { return &l[classB].Vars[1] },
			func(l []api.Decl) *api.Var { return &l[classB].Methods[0].Vars[0] },
		},
		held: {
			func(l []api.Decl) *api.Var { return &l[programP].Vars[5] },
			func(l []api.Decl) *api.Var { return &l[programQ].Vars[2] },
		},
	}
}

// owner is the number of the declaration in which a variable stands.
func owner(l []api.Decl, v *api.Var) int {
	for d := range l {
		for i := range l[d].Vars {
			if &l[d].Vars[i] == v {
				return d
			}
		}
		for m := range l[d].Methods {
			for i := range l[d].Methods[m].Params {
				if &l[d].Methods[m].Params[i] == v {
					return d
				}
			}
			for i := range l[d].Methods[m].Vars {
				if &l[d].Methods[m].Vars[i] == v {
					return d
				}
			}
		}
	}
	return -1
}

// types are of all kinds, each with the places at which it may stand.
func types() map[api.Type]int {
	part := func(lo, hi int) api.Type { return api.Type{Kind: api.Range, Lo: lo, Hi: hi} }
	named := func(kind int, name string) api.Type { return api.Type{Kind: kind, Name: name} }
	all := map[api.Type]int{
		{}: result, {Kind: api.Int}: result | parameter | kept | held, {Kind: api.Bool}: result | parameter | kept | held,
		// What else such a type tells is not asked.
		{Kind: api.Int, Lo: 5, Hi: -5, Name: "none"}: result | parameter | kept | held, {Kind: api.None, Lo: 5, Name: "none"}: result,
		part(1, 5): kept | held, part(0, 0): kept | held, part(-32768, 32767): kept | held, part(-32768, -32768): kept | held, part(32767, 32767): kept | held,
		part(-32769, 5): 0, part(5, 32768): 0, part(1, 0): 0, part(5, -5): 0, part(32768, 32768): 0, part(-32769, -32769): 0,
		part(math.MinInt, math.MaxInt): 0, part(math.MaxInt, math.MinInt): 0, part(0, 1<<32): 0, part(-1<<32, 0): 0,
	}
	for hi := -2; hi <= 10; hi++ {
		all[api.Type{Kind: api.Array, Hi: hi}] = 0
	}
	for hi := range api.MaxArray {
		all[api.Type{Kind: api.Array, Hi: hi}] = kept | held
	}
	all[api.Type{Kind: api.Array, Hi: math.MaxInt}], all[api.Type{Kind: api.Array, Hi: math.MinInt}], all[api.Type{Kind: api.Array, Hi: 1 << 32}] = 0, 0, 0
	for _, name := range []string{"I", "J", "A", "B", "C", "S"} {
		all[named(api.Ref, name)] = parameter | kept | held
	}
	for _, name := range []string{"", "P", "Q", "T", "Z", "a", "A ", "get"} {
		all[named(api.Ref, name)] = 0
		all[named(api.Inst, name)] = 0
	}
	for _, name := range []string{"B", "C", "S"} {
		all[named(api.Inst, name)] = held
	}
	for _, name := range []string{"I", "J", "A"} {
		all[named(api.Inst, name)] = 0
	}
	for lo := -2; lo <= 10; lo++ {
		all[api.Type{Kind: api.Timer, Lo: lo}] = 0
	}
	for lo := api.TON; lo <= api.FTrig; lo++ {
		all[api.Type{Kind: api.Timer, Lo: lo}] = held
	}
	for _, kind := range []int{-1, 8, 9, 1 << 32, math.MaxInt, math.MinInt} {
		all[api.Type{Kind: kind, Lo: 1, Hi: 1, Name: "A"}] = 0
	}
	return all
}

// TestTypes has each type at each place.
func TestTypes(t *testing.T) {
	for kind, places := range types() {
		for place, list := range spots() {
			for _, spot := range list {
				u := changed(t)
				v := spot(u.Decls)
				v.Type, v.Init = kind, max(-32768, min(kind.Lo, 32767))
				if kind.Kind != api.Range {
					v.Init = 0
				}
				d := owner(u.Decls, v)
				want := api.Fine
				if places&place == 0 {
					want = api.Kind
				}
				if got := soundBut(u, d, api.Over, api.Face, api.Typing); got != want {
					t.Errorf("P8.1: %v at place %d of %s is %d, not %d", kind, place, u.Decls[d].Name, got, want)
				}
			}
		}
		for _, m := range []api.Where{{Decl: faceI, Method: 0}, {Decl: faceI, Method: 1}, {Decl: classA, Method: 2}, {Decl: classB, Method: 2}} {
			u := changed(t)
			u.Decls[m.Decl].Methods[m.Method].Result = kind
			want := api.Fine
			if places&result == 0 {
				want = api.Kind
			}
			if got := soundBut(u, m.Decl, api.Over, api.Face, api.Typing); got != want {
				t.Errorf("P8.1: %v as what %v answers is %d, not %d", kind, m, got, want)
			}
		}
	}
}

// TestNameOfType has two declarations of one name: the first one counts, whatever it is.
func TestNameOfType(t *testing.T) {
	const src = "CLASS A ; END_CLASS PROGRAM A ; END_PROGRAM PROGRAM B ; END_PROGRAM CLASS B ; END_CLASS CLASS ABSTRACT C ; END_CLASS CLASS C ; END_CLASS PROGRAM P ; VAR v : "
	for kind, want := range map[string]int{"A": api.Fine, "REF_TO A": api.Fine, "B": api.Kind, "REF_TO B": api.Kind, "C": api.Kind, "REF_TO C": api.Fine} {
		oddDecl(t, read(t, src+kind+" ; END_PROGRAM"), 6, want, kind)
	}
	// A name that is empty is one.
	u := api.Unit{Decls: []api.Decl{{Kind: api.Class}, {Kind: api.Program, Name: "P", Vars: []api.Var{{Name: "r", Type: api.Type{Kind: api.Ref}}, {Name: "i", Type: api.Type{Kind: api.Inst}}}}}}
	oddDecl(t, u, 1, api.Fine, "an empty name")
}

// TestInit has what variables are at first, within what may be and past it.
func TestInit(t *testing.T) {
	for kind, ends := range map[api.Type][2]int{
		{Kind: api.Int}:                        {-32768, 32767},
		{Kind: api.Int, Lo: 4, Hi: 6}:          {-32768, 32767},
		{Kind: api.Bool}:                       {0, 1},
		{Kind: api.Range, Lo: -3, Hi: 7}:       {-3, 7},
		{Kind: api.Range, Lo: 4, Hi: 4}:        {4, 4},
		{Kind: api.Range, Lo: -7, Hi: -5}:      {-7, -5},
		{Kind: api.Array, Hi: 7}:               {0, 0},
		{Kind: api.Ref, Name: "A"}:             {0, 0},
		{Kind: api.Inst, Name: "S"}:            {0, 0},
		{Kind: api.Timer, Lo: api.CTU, Hi: -1}: {0, 0},
	} {
		for _, n := range []int{ends[0], ends[1], (ends[0] + ends[1]) / 2, ends[0] - 1, ends[1] + 1, 0, 1, -1, 2, 1 << 32, 1<<32 + 1, math.MaxInt, math.MinInt} {
			want := api.Fine
			if n < ends[0] || n > ends[1] {
				want = api.Init
			}
			for place, list := range spots() {
				if types := kind.Kind == api.Inst || kind.Kind == api.Timer; place == parameter || types && place != held {
					continue
				}
				for _, spot := range list {
					u := changed(t)
					v := spot(u.Decls)
					v.Type, v.Init = kind, n
					if got := soundBut(u, owner(u.Decls, v), api.Typing); got != want {
						t.Errorf("P8.1: %v that is %d at first is %d, not %d", kind, n, got, want)
					}
				}
			}
		}
	}
	for _, spot := range spots()[parameter] {
		u := changed(t)
		v := spot(u.Decls)
		v.Init = 70000
		oddDecl(t, u, owner(u.Decls, v), api.Fine, fmt.Sprint("a parameter that is something at first: ", v.Name))
	}
}
