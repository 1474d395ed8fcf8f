package typing_test

import (
	"slices"

	"governor/api"
	"governor/table"
)

// reading reads the chapter's words as they stand, rule by rule: what is wrong first ends all of it.
type reading struct {
	u     api.Unit
	w     api.Where
	loops int
}

// code is what ends a reading.
type code int

// must ends the reading, if what must be isn't.
func must(ok bool, c int) {
	if !ok {
		panic(code(c))
	}
}

// ended answers the code at which a reading ended: 0, if it went to its end.
func ended(read func()) (c int) {
	defer func() {
		switch x := recover().(type) {
		case nil:
		case code:
			c = int(x)
		default:
			panic(x)
		}
	}()
	read()
	return 0
}

// inClass tells whether the place is a method of a class; a body must be a program's then.
func (r *reading) inClass() bool {
	must(r.w.Decl >= 0 && r.w.Decl < len(r.u.Decls), api.Arg)
	d := r.u.Decls[r.w.Decl]
	class := d.Kind == api.Class && slices.Contains(numbersTo(len(d.Methods)), r.w.Method)
	must(class || d.Kind == api.Program && r.w.Method == -1, api.Arg)
	return class
}

func numbersTo(n int) []int {
	var list []int
	for i := range n {
		list = append(list, i)
	}
	return list
}

func (r *reading) visible() []api.Var {
	if !r.inClass() {
		return r.u.Decls[r.w.Decl].Vars
	}
	m := r.u.Decls[r.w.Decl].Methods[r.w.Method]
	list := append([]api.Var{}, m.Params...)
	list = append(list, m.Vars...)
	for i := range table.Chain(r.u, r.w.Decl) {
		chain := table.Chain(r.u, r.w.Decl)
		list = append(list, r.u.Decls[chain[len(chain)-1-i]].Vars...)
	}
	return list
}

func (r *reading) variable(name string) api.Var {
	for _, v := range r.visible() {
		if v.Name == name {
			return v
		}
	}
	must(false, api.Unknown)
	return api.Var{}
}

func (r *reading) fits(to, from api.Type) bool {
	return (to.Kind == api.Int || to.Kind == api.Range) && from.Kind == api.Int ||
		to.Kind == api.Bool && from.Kind == api.Bool ||
		to.Kind == api.Ref && from.Kind == api.Ref && (from.Name == "" || table.Is(r.u, from.Name, to.Name) || from.Name == to.Name)
}

// isType tells whether a name is a class's or interface's.
func (r *reading) isType(name string) bool {
	d := table.Find(r.u, name)
	return d >= 0 && (r.u.Decls[d].Kind == api.Class || r.u.Decls[d].Kind == api.Interface)
}

// between tells whether n is from one number to another.
func between(n, from, to int) bool { return from <= n && n <= to }

func (r *reading) expr(e api.Expr) api.Type {
	count := map[int]int{api.Index: 1, api.Neg: 1, api.Not: 1, api.As: 1, api.Bin: 2, api.Invoke: len(e.Args)}
	must(between(e.Kind, api.Num, api.As) && len(e.Args) == count[e.Kind], api.Typing)
	whole, logic := api.Type{Kind: api.Int}, api.Type{Kind: api.Bool}
	switch e.Kind {
	case api.Num:
		return whole
	case api.True, api.False:
		return logic
	case api.Null:
		return api.Type{Kind: api.Ref}
	case api.Name:
		v := r.variable(e.Name)
		must(slices.Contains([]int{api.Int, api.Bool, api.Range, api.Ref}, v.Type.Kind), api.Typing)
		if v.Type.Kind == api.Ref {
			return v.Type
		}
		if v.Type.Kind == api.Bool {
			return logic
		}
		return whole
	case api.Index:
		must(r.variable(e.Name).Type.Kind == api.Array, api.Typing)
		must(r.expr(e.Args[0]).Kind == api.Int, api.Typing)
		return whole
	case api.Neg:
		that := r.expr(e.Args[0])
		must(that.Kind == api.Int, api.Typing)
		return that
	case api.Not:
		that := r.expr(e.Args[0])
		must(that.Kind == api.Bool, api.Typing)
		return that
	case api.Bin:
		return r.bin(e)
	case api.RefOf:
		v := r.variable(e.Name)
		must(v.Type.Kind == api.Inst, api.Typing)
		return api.Type{Kind: api.Ref, Name: v.Type.Name}
	case api.Out:
		must(r.variable(e.Name).Type.Kind == api.Timer, api.Typing)
		return logic
	case api.Count:
		must(r.variable(e.Name).Type.Kind == api.Timer, api.Typing)
		return whole
	case api.As:
		must(r.isType(e.Name), api.Unknown)
		must(r.expr(e.Args[0]).Kind == api.Ref, api.Typing)
		return api.Type{Kind: api.Ref, Name: e.Name}
	}
	result := r.invoke(e)
	must(result.Kind != api.None, api.Typing)
	return result
}

func (r *reading) bin(e api.Expr) api.Type {
	a, b := r.expr(e.Args[0]).Kind, r.expr(e.Args[1]).Kind
	switch {
	case between(e.N, api.Add, api.Mod):
		must(a == api.Int && b == api.Int, api.Typing)
		return api.Type{Kind: api.Int}
	case between(e.N, api.Lt, api.Ge):
		must(a == api.Int && b == api.Int, api.Typing)
	case between(e.N, api.And, api.Xor):
		must(a == api.Bool && b == api.Bool, api.Typing)
	case between(e.N, api.Eq, api.Ne):
		must(a == b && slices.Contains([]int{api.Int, api.Bool, api.Ref}, a), api.Typing)
	default:
		must(false, api.Typing)
	}
	return api.Type{Kind: api.Bool}
}

func (r *reading) invoke(e api.Expr) api.Type {
	class := r.w.Decl
	switch e.N {
	case 0:
		t := r.variable(e.Name).Type
		must(t.Kind == api.Inst || t.Kind == api.Ref && t.Name != "", api.Typing)
		must(r.isType(t.Name), api.Unknown)
		class = table.Find(r.u, t.Name)
	case 1:
		must(r.inClass(), api.Call)
	case 2:
		must(r.inClass(), api.Call)
		chain := table.Chain(r.u, class)
		must(len(chain) != 1, api.Call)
		class = chain[1]
	default:
		must(false, api.Typing)
	}
	w, ok := table.Method(r.u, class, e.What)
	must(ok, api.Call)
	m := r.u.Decls[w.Decl].Methods[w.Method]
	must(e.N != 2 || !m.Abstract, api.Call)
	var types []api.Type
	for _, arg := range e.Args {
		types = append(types, r.expr(arg))
	}
	must(len(types) == len(m.Params), api.Call)
	for i, p := range m.Params {
		must(r.fits(p.Type, types[i]), api.Call)
	}
	return m.Result
}

func (r *reading) list(l []api.Stmt) {
	for _, s := range l {
		must(r.form(s), api.Typing)
		r.stmt(s)
	}
}

// loop reads a list that a loop is around.
func (r *reading) loop(l []api.Stmt) {
	r.loops++
	r.list(l)
	r.loops--
}

// form tells whether a statement has a kind, and the number of parts of that.
func (r *reading) form(s api.Stmt) bool {
	for _, labels := range s.Labels {
		if s.Kind == api.Case && len(labels) == 0 {
			return false
		}
	}
	switch s.Kind {
	case api.If:
		return len(s.Exprs) > 0 && forms(api.If, 1, 2, len(s.Labels)) && len(s.Blocks)-len(s.Exprs) == 1
	case api.Case:
		return len(s.Exprs) == 1 && len(s.Blocks)-len(s.Labels) == 1
	}
	return forms(s.Kind, len(s.Exprs), len(s.Blocks), len(s.Labels))
}

func (r *reading) stmt(s api.Stmt) {
	switch s.Kind {
	case api.Assign:
		v := r.variable(s.Name)
		must(v.Dir != 1, api.Typing)
		must(r.fits(v.Type, r.expr(s.Exprs[0])), api.Typing)
	case api.Put:
		must(r.variable(s.Name).Type.Kind == api.Array, api.Typing)
		a, b := r.expr(s.Exprs[0]).Kind, r.expr(s.Exprs[1]).Kind
		must(a == api.Int && b == api.Int, api.Typing)
	case api.Attempt:
		must(r.variable(s.Name).Type.Kind == api.Ref, api.Typing)
		must(r.expr(s.Exprs[0]).Kind == api.Ref, api.Typing)
	case api.Do:
		must(s.Exprs[0].Kind == api.Invoke, api.Typing)
		r.invoke(s.Exprs[0])
	case api.If:
		for i, e := range s.Exprs {
			must(r.expr(e).Kind == api.Bool, api.Typing)
			r.list(s.Blocks[i])
		}
		r.list(s.Blocks[len(s.Blocks)-1])
	case api.Case:
		must(r.expr(s.Exprs[0]).Kind == api.Int, api.Typing)
		all := slices.Concat(s.Labels...)
		for i, n := range all {
			must(slices.Index(all, n) == i && between(n, -32768, 32767), api.Twice)
		}
		for _, block := range s.Blocks {
			r.list(block)
		}
	case api.While:
		must(r.expr(s.Exprs[0]).Kind == api.Bool, api.Typing)
		r.loop(s.Blocks[0])
	case api.For:
		v := r.variable(s.Name)
		must(v.Type.Kind == api.Int && v.Dir != 1 && s.N != 0, api.Typing)
		a, b := r.expr(s.Exprs[0]).Kind, r.expr(s.Exprs[1]).Kind
		must(a == api.Int && b == api.Int, api.Typing)
		r.loop(s.Blocks[0])
	default:
		r.rest(s)
	}
}

func (r *reading) rest(s api.Stmt) {
	switch s.Kind {
	case api.Return:
		result := api.Type{}
		if r.inClass() {
			result = r.u.Decls[r.w.Decl].Methods[r.w.Method].Result
		}
		if len(s.Exprs) == 0 {
			must(result.Kind == api.None, api.Typing)
			return
		}
		t := r.expr(s.Exprs[0])
		must(result.Kind != api.None && r.fits(result, t), api.Typing)
	case api.Exit:
		must(r.loops > 0, api.Typing)
	case api.Step:
		must(r.variable(s.Name).Type.Kind == api.Timer, api.Typing)
		a, b := r.expr(s.Exprs[0]).Kind, r.expr(s.Exprs[1]).Kind
		must(a == api.Bool && b == api.Int, api.Typing)
	}
}
