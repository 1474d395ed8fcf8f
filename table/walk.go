package table

import (
	"slices"

	"governor/api"
)

// few is of how many declarations each is looked at for a name, without a map of them.
const few = 32

// finder answers what finds declarations as Find does. In a great unit that
// is a map: a chain of thousands would go through all of them for each base.
func finder(u api.Unit) func(name string) int {
	if len(u.Decls) <= few {
		return func(name string) int { return Find(u, name) }
	}
	first := make(map[string]int, len(u.Decls))
	for d := range slices.Backward(u.Decls) {
		first[u.Decls[d].Name] = d
	}
	return func(name string) int {
		if d, ok := first[name]; ok {
			return d
		}
		return -1
	}
}

// isOf tells whether d is a declaration's number, and that one of a kind.
func isOf(u api.Unit, d int, kind int) bool {
	return d >= 0 && d < len(u.Decls) && u.Decls[d].Kind == kind
}

// walk keeps the declarations that it meets, each once.
type walk struct {
	met   []bool
	order []int
}

// newWalk answers a walk that has met none of a unit's declarations.
func newWalk(u api.Unit) *walk {
	return &walk{met: make([]bool, len(u.Decls))}
}

// meet keeps a declaration; false, if it was met before.
func (w *walk) meet(d int) bool {
	if w.met[d] {
		return false
	}
	w.met[d] = true
	w.order = append(w.order, d)
	return true
}

// chain goes from a class to its base, as long as that is a class that it didn't meet.
func chain(u api.Unit, d int, find func(name string) int) []int {
	classes := newWalk(u)
	for isOf(u, d, api.Class) && classes.meet(d) {
		d = find(u.Decls[d].Base)
	}
	return classes.order
}
