package lookup_test

import (
	"slices"
	"strconv"
	"testing"

	"governor/api"
	"governor/lookup"
)

// rows is a unit of n classes, each of which extends the next but every fifth, which stands in a ring with
// the first one; behind them an interface of each, and declarations of other kinds.
func rows(n int) api.Unit {
	var u api.Unit
	name := func(letter string, i int) string { return letter + strconv.Itoa(i) }
	for i := range n {
		d := api.Decl{Kind: api.Class, Name: name("C", i), Base: name("C", i+1), Faces: []string{name("I", i)}}
		if i%5 == 4 {
			d.Base = name("C", 0)
		}
		d.Vars = []api.Var{{Name: name("v", i)}}
		d.Methods = []api.Method{{Name: name("m", i%7)}}
		u.Decls = append(u.Decls, d)
	}
	for i := range n {
		u.Decls = append(u.Decls, api.Decl{Kind: api.Interface, Name: name("I", i), Methods: []api.Method{{Name: "m"}}})
	}
	return api.Unit{Decls: append(u.Decls, api.Decl{Kind: api.Program, Name: "P", Vars: []api.Var{{Name: "p"}}}, api.Decl{Kind: api.TaskOf, Name: "T"}, api.Decl{Name: "C1"})}
}

// TestAskedAgain asks one index of all, there and back, as a new one is asked once, and writes into what it answers.
func TestAskedAgain(t *testing.T) {
	for _, n := range []int{0, 1, 6, 14, 15, 40} {
		u := rows(n)
		kept := lookup.Of(u)
		numbers := []int{-1, len(u.Decls)}
		for d := range u.Decls {
			numbers = append(numbers, d)
		}
		for range 2 {
			for _, d := range numbers {
				chain, faces, fields := kept.Chain(d), kept.Faces(d), kept.Fields(d)
				if !slices.Equal(chain, lookup.Of(u).Chain(d)) || !slices.Equal(faces, lookup.Of(u).Faces(d)) || !slices.Equal(fields, lookup.Of(u).Fields(d)) {
					t.Errorf("number %d of %d: chain %d, faces %d, fields %v", d, n, chain, faces, fields)
				}
				for i := range chain {
					chain[i] = -7
				}
				for _, name := range []string{"m", "m0", "m4", "m9"} {
					w, ok := kept.Method(d, name)
					if want, found := lookup.Of(u).Method(d, name); w != want || ok != found {
						t.Errorf("method %s of number %d of %d is %v, %v", name, d, n, w, ok)
					}
				}
			}
			slices.Reverse(numbers)
		}
		for _, d := range u.Decls {
			if kept.Find(d.Name) != lookup.Find(u, d.Name) || kept.Is("C0", d.Name) != lookup.Of(u).Is("C0", d.Name) {
				t.Errorf("%s of %d", d.Name, n)
			}
		}
	}
}

func TestType(t *testing.T) {
	for _, n := range []int{3, 40} {
		x := lookup.Of(rows(n))
		for name, want := range map[string]int{"C0": 0, "C1": 1, "C2": 2, "I0": n, "I2": n + 2} {
			if d, ok := x.Type(name); d != want || !ok {
				t.Errorf("Type(%q) is %d, %v", name, d, ok)
			}
		}
		for _, name := range []string{"P", "T", "", "X", "c0"} {
			if d, ok := x.Type(name); d != 0 || ok {
				t.Errorf("Type(%q) is %d, %v", name, d, ok)
			}
		}
	}
	if _, ok := lookup.Of(api.Unit{}).Type(""); ok {
		t.Error("a type in no unit")
	}
}
