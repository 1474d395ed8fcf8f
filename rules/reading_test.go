package rules_test

import (
	"slices"

	"governor/api"
	"governor/table"
	"governor/typing"
)

// reading reads the chapter's words as they stand, rule by rule, of one declaration: what holds first ends all of it.
type reading struct {
	u api.Unit
	d int
}

// holds ends the reading.
type holds int

func tell(ok bool, code int) {
	if ok {
		panic(holds(code))
	}
}

// code is a declaration's code.
func (r reading) code() (code int) {
	defer func() {
		switch x := recover().(type) {
		case nil:
		case holds:
			code = int(x)
		default:
			panic(x)
		}
	}()
	tell(r.d < 0 || r.d >= len(r.u.Decls) || r.decl().Kind < api.Interface || r.decl().Kind > api.TaskOf, api.Arg)
	r.each()
	switch r.decl().Kind {
	case api.Interface:
		r.face()
	case api.Class:
		r.class()
		r.rest()
	case api.Program:
		r.program()
	case api.TaskOf:
		r.task()
	}
	return 0
}

func (r reading) decl() api.Decl { return r.u.Decls[r.d] }

// isOf tells whether a name is one of a declaration of that kind.
func (r reading) isOf(name string, kinds ...int) bool {
	d := table.Find(r.u, name)
	return d >= 0 && slices.Contains(kinds, r.u.Decls[d].Kind)
}

func (r reading) each() {
	d := r.decl()
	tell(r.d+1 > api.MaxDecls || len(d.Methods) > api.MaxMethods || len(d.Faces) > api.MaxFaces || len(d.Vars) > api.MaxVars, api.Size)
	for _, m := range d.Methods {
		tell(len(m.Params) > api.MaxParams || len(m.Vars) > api.MaxVars, api.Size)
	}
	for _, other := range r.u.Decls[:r.d] {
		tell(other.Name == d.Name, api.Twice)
	}
}

func (r reading) param(t api.Type) bool {
	return t.Kind == api.Int || t.Kind == api.Bool || t.Kind == api.Ref && r.isOf(t.Name, api.Class, api.Interface)
}

func (r reading) field(t api.Type) bool {
	return r.param(t) || t.Kind == api.Range && -32768 <= t.Lo && t.Hi <= 32767 && !(t.Lo > t.Hi) || t.Kind == api.Array && 0 <= t.Hi && t.Hi < 8
}

func (r reading) variable(t api.Type) bool {
	return r.field(t) || t.Kind == api.Inst && r.isOf(t.Name, api.Class) && !r.u.Decls[table.Find(r.u, t.Name)].Abstract || t.Kind == api.Timer && t.Lo > 0 && t.Lo < 8
}

func answer(t api.Type) bool { return t.Kind == 0 || t.Kind == api.Int || t.Kind == api.Bool }

func start(v api.Var) bool {
	ends := map[int][2]int{api.Int: {-32768, 32767}, api.Bool: {0, 1}, api.Range: {v.Type.Lo, v.Type.Hi}}[v.Type.Kind]
	return ends[0] <= v.Init && v.Init <= ends[1]
}

// twice tells what holds, if two of these have one name.
func twice(names []string) {
	for i, name := range names {
		tell(slices.Index(names, name) != i, api.Twice)
	}
}

func varNames(vars []api.Var) []string {
	var names []string
	for _, v := range vars {
		names = append(names, v.Name)
	}
	return names
}

func methodNames(list []api.Method) []string {
	var names []string
	for _, m := range list {
		names = append(names, m.Name)
	}
	return names
}

func (r reading) face() {
	for _, m := range r.decl().Methods {
		tell(!answer(m.Result), api.Kind)
		for _, p := range m.Params {
			tell(!r.param(p.Type), api.Kind)
		}
	}
	twice(methodNames(r.decl().Methods))
	for _, m := range r.decl().Methods {
		twice(varNames(m.Params))
	}
}

func (r reading) class() {
	d := r.decl()
	if d.Base != "" {
		b := table.Find(r.u, d.Base)
		tell(!r.isOf(d.Base, api.Class) || b >= r.d || r.u.Decls[b].Final, api.Base)
	}
	for i, name := range d.Faces {
		tell(!r.isOf(name, api.Interface) || slices.Contains(d.Faces[:i], name), api.Face)
	}
	for _, v := range d.Vars {
		tell(!r.field(v.Type) || v.Dir != 0, api.Kind)
	}
	for _, m := range d.Methods {
		for _, p := range m.Params {
			tell(!r.param(p.Type) || p.Dir != 0, api.Kind)
		}
		tell(!answer(m.Result), api.Kind)
		for _, v := range m.Vars {
			tell(!r.field(v.Type) || v.Dir != 0, api.Kind)
		}
	}
	for _, v := range d.Vars {
		tell(!start(v), api.Init)
	}
	for _, m := range d.Methods {
		for _, v := range m.Vars {
			tell(!start(v), api.Init)
		}
	}
	twice(varNames(table.Fields(r.u, r.d)))
	twice(methodNames(d.Methods))
	for i := range d.Methods {
		twice(varNames(typing.Visible(r.u, api.Where{Decl: r.d, Method: i})))
	}
}

// method is what table.Method finds.
func (r reading) method(d int, name string) (api.Method, bool) {
	w, ok := table.Method(r.u, d, name)
	if !ok {
		return api.Method{}, false
	}
	return r.u.Decls[w.Decl].Methods[w.Method], true
}

// rest reads of a class what stands behind its names.
func (r reading) rest() {
	d, chain := r.decl(), table.Chain(r.u, r.d)
	tell(d.Abstract && d.Final, api.Abstract)
	for _, m := range d.Methods {
		tell(m.Abstract && m.Final, api.Abstract)
		tell(m.Abstract && (len(m.Vars)+len(m.Body) > 0 || !d.Abstract), api.Abstract)
	}
	for _, c := range chain {
		for _, m := range r.u.Decls[c].Methods {
			found, _ := r.method(r.d, m.Name)
			tell(!d.Abstract && found.Abstract, api.Abstract)
		}
	}
	for _, m := range d.Methods {
		var base api.Method
		found := false
		if len(chain) > 1 {
			base, found = r.method(chain[1], m.Name)
		}
		tell(m.Over && !found || !m.Over && found, api.Over)
		tell(found && (base.Final || !table.Alike(m, base)), api.Over)
	}
	for _, f := range table.Faces(r.u, r.d) {
		for _, m := range r.u.Decls[f].Methods {
			own, found := r.method(r.d, m.Name)
			tell(!found || !table.Alike(own, m), api.Face)
		}
	}
	for i, m := range d.Methods {
		if !m.Abstract {
			code := typing.Stmts(r.u, api.Where{Decl: r.d, Method: i}, m.Body)
			tell(code != 0, code)
		}
	}
}

func (r reading) program() {
	d := r.decl()
	for _, v := range d.Vars {
		tell(!r.variable(v.Type) || v.Dir < 0 || v.Dir > 2, api.Kind)
		tell(v.Dir != 0 && v.Type.Kind != api.Int && v.Type.Kind != api.Bool, api.Kind)
	}
	for _, v := range d.Vars {
		tell(!start(v), api.Init)
	}
	for i, v := range d.Vars {
		tell((v.Dir == 1 || v.Dir == 2) && (v.Slot < 0 || v.Slot > 7), api.Slot)
		same := func(o api.Var) bool { return v.Dir == 2 && o.Dir == 2 && o.Slot == v.Slot }
		tell(slices.ContainsFunc(d.Vars[:i], same), api.Slot)
		for _, p := range r.u.Decls[:r.d] {
			tell(p.Kind == api.Program && slices.ContainsFunc(p.Vars, same), api.Slot)
		}
	}
	twice(varNames(d.Vars))
	code := typing.Stmts(r.u, api.Where{Decl: r.d, Method: -1}, d.Body)
	tell(code != 0, code)
}

func (r reading) task() {
	d := r.decl()
	tell(!r.isOf(d.Base, api.Program) || table.Find(r.u, d.Base) >= r.d, api.Task)
	for _, t := range r.u.Decls[:r.d] {
		tell(t.Kind == api.TaskOf && t.Base == d.Base, api.Task)
	}
	tell(d.Every < 1 || d.Every > 100 || d.First < 0 || d.First > 9, api.Task)
}
