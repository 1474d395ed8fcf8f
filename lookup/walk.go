package lookup

// walk keeps the declarations that it meets, each once.
type walk struct {
	met   []bool
	order []int
}

// walk answers a walk that has met none of the declarations.
func (x *Index) walk() *walk {
	return &walk{met: make([]bool, len(x.decls))}
}

// meet keeps a declaration; false, if it was met before.
func (w *walk) meet(d int) bool {
	if w.met[d] {
		return false
	}
	w.met[d] = true
	w.order = append(w.order, d)
	return true
}
