// Package lookup asks one unit many things, as table does each at once: what is
// found in a great unit is kept, so that no later question goes through all of it.
package lookup

import (
	"slices"

	"governor/api"
)

// few is of how many declarations each is looked at for a name, without a map of them.
const few = 32

// Index is a unit, and what was found in it. It is of one goroutine, and of a
// time in which the unit stays as it is.
type Index struct {
	decls []api.Decl
	first map[string]int // of a great unit: the first declaration of each name
	bases []int          // of each declaration its base's number and 2; 0, if that wasn't asked
}

// Of answers an index of a unit.
func Of(u api.Unit) *Index {
	return &Index{decls: u.Decls}
}

// Find answers the first declaration of that name; -1, if there is none.
func Find(u api.Unit, name string) int {
	for d := range u.Decls {
		if u.Decls[d].Name == name {
			return d
		}
	}
	return -1
}

// Find answers the first declaration of that name; -1, if there is none.
func (x *Index) Find(name string) int {
	if len(x.decls) <= few {
		return Find(api.Unit{Decls: x.decls}, name)
	}
	if x.first == nil {
		x.first = make(map[string]int, len(x.decls))
		for d := range slices.Backward(x.decls) {
			x.first[x.decls[d].Name] = d
		}
	}
	if d, ok := x.first[name]; ok {
		return d
	}
	return -1
}

// Type answers the number of the class or interface of that name; false, if there is none.
func (x *Index) Type(name string) (int, bool) {
	d := x.Find(name)
	if !x.isOf(d, api.Class) && !x.isOf(d, api.Interface) {
		return 0, false
	}
	return d, true
}

// Chain answers a class, its base, that one's base, and so on, as long as that
// is a class that was not met.
func (x *Index) Chain(d int) []int {
	classes := x.walk()
	for x.isOf(d, api.Class) && classes.meet(d) {
		d = x.base(d)
	}
	return classes.order
}

// Faces answers the interfaces of all of a class's chain.
func (x *Index) Faces(d int) []int {
	faces := x.walk()
	for _, class := range x.Chain(d) {
		for _, name := range x.decls[class].Faces {
			if face := x.Find(name); x.isOf(face, api.Interface) {
				faces.meet(face)
			}
		}
	}
	return faces.order
}

// Is tells whether what is of one name may stand for what is of another.
func (x *Index) Is(name string, what string) bool {
	d, ok := x.Type(name)
	if !ok {
		return false
	}
	if name == what {
		return true
	}
	// An interface has neither chain nor faces: it is nothing but itself.
	other := x.Find(what)
	return slices.Contains(x.Chain(d), other) || slices.Contains(x.Faces(d), other)
}

// Method answers where a class, or an interface, has its method of that name; false, if it has none.
func (x *Index) Method(d int, name string) (api.Where, bool) {
	homes := x.Chain(d)
	if x.isOf(d, api.Interface) {
		homes = []int{d}
	}
	for _, home := range homes {
		for m := range x.decls[home].Methods {
			if x.decls[home].Methods[m].Name == name {
				return api.Where{Decl: home, Method: m}, true
			}
		}
	}
	return api.Where{}, false
}

// Fields answers the variables of an instance of a class, its bases' ahead of its own; or a program's.
func (x *Index) Fields(d int) []api.Var {
	homes := x.Chain(d)
	if x.isOf(d, api.Program) {
		homes = []int{d}
	}
	var fields []api.Var
	for _, home := range slices.Backward(homes) {
		fields = append(fields, x.decls[home].Vars...)
	}
	return fields
}

// isOf tells whether d is a declaration's number, and that one of a kind.
func (x *Index) isOf(d int, kind int) bool {
	return d >= 0 && d < len(x.decls) && x.decls[d].Kind == kind
}

// base answers what is found of a declaration's base.
func (x *Index) base(d int) int {
	if x.bases == nil {
		x.bases = make([]int, len(x.decls))
	}
	if x.bases[d] == 0 {
		x.bases[d] = x.Find(x.decls[d].Base) + 2
	}
	return x.bases[d] - 2
}
