package typing_test

import (
	"math/rand"
	"reflect"
	"slices"
	"testing"

	"governor/api"
	"governor/typing"
)

// chance makes units, and what is typed at a place of one. It aims at what is well: one time in odds it does not look.
type chance struct {
	*rand.Rand
	odds int
	u    api.Unit
	w    api.Where
	vars []api.Var
}

// blind tells whether to take anything.
func (c *chance) blind() bool { return c.Intn(c.odds) == 0 }

func (c *chance) one(names ...string) string { return names[c.Intn(len(names))] }

func (c *chance) declName() string { return c.one("A", "B", "C", "D", "E", "I", "J", "P", "") }

func (c *chance) varName() string { return c.one("a", "b", "c", "d", "e", "f", "g", "h") }

func (c *chance) methodName() string { return c.one("m", "n", "o") }

func (c *chance) typeOf() api.Type {
	t := api.Type{Kind: c.Intn(9), Name: c.declName()}
	if t.Kind != api.Ref && t.Kind != api.Inst && c.Intn(4) > 0 {
		t.Name = ""
	}
	return t
}

// allVars has a variable of each kind.
func (c *chance) allVars() []api.Var {
	var vars []api.Var
	for kind := range 8 {
		vars = append(vars, api.Var{Name: string(rune('a' + kind)), Type: api.Type{Kind: kind, Name: c.declName()}})
	}
	return vars
}

func (c *chance) someVars(most int) []api.Var {
	if c.Intn(10) < most {
		return c.allVars()
	}
	var vars []api.Var
	for range c.Intn(most + 1) {
		vars = append(vars, api.Var{Name: c.varName(), Type: c.typeOf(), Dir: c.Intn(10) / 8})
	}
	return vars
}

func (c *chance) method() api.Method {
	m := api.Method{Name: c.methodName(), Abstract: c.Intn(4) == 0, Vars: c.someVars(2)}
	for range c.Intn(3) {
		p := api.Var{Name: c.varName(), Type: api.Type{Kind: []int{api.Int, api.Bool, api.Ref, api.Range}[c.Intn(4)]}}
		if p.Type.Kind == api.Ref {
			p.Type.Name = c.declName()
		}
		m.Params = append(m.Params, p)
	}
	m.Result = api.Type{Kind: c.Intn(3), Lo: c.Intn(2), Hi: c.Intn(3) - 1}
	if c.Intn(4) == 0 {
		m.Result = c.typeOf()
	}
	return m
}

func (c *chance) decl() api.Decl {
	d := api.Decl{Kind: []int{0, api.Interface, api.Class, api.Class, api.Class, api.Class, api.Program, api.Program, api.TaskOf, 5}[c.Intn(10)], Name: c.declName(), Base: c.declName(), Vars: c.someVars(8)}
	for range c.Intn(4) {
		d.Faces = append(d.Faces, c.declName())
		d.Methods = append(d.Methods, c.method())
	}
	return d
}

func (c *chance) unit() {
	c.u = api.Unit{}
	for range 1 + c.Intn(9) {
		c.u.Decls = append(c.u.Decls, c.decl())
	}
}

// named is the name of a variable of one of those kinds.
func (c *chance) named(kinds ...int) string {
	var names []string
	for i, v := range c.vars {
		first := slices.IndexFunc(c.vars, func(x api.Var) bool { return x.Name == v.Name }) == i
		if first && slices.Contains(kinds, v.Type.Kind) && v.Dir != 1 {
			names = append(names, v.Name)
		}
	}
	if len(names) == 0 || c.blind() {
		return c.varName()
	}
	return c.one(names...)
}

// lacks drops one of a list's parts, or adds one, one time in a few.
func lacks[T any](c *chance, list []T, one T) []T {
	switch c.Intn(20 * c.odds) {
	case 0:
		return append(list, one)
	case 1:
		return list[:max(0, len(list)-1)]
	}
	return list
}

// expr is an expression that may well be of that kind.
func (c *chance) expr(kind, deep int) api.Expr {
	if c.blind() {
		kind = c.Intn(9)
	}
	e := c.aimed(kind, deep)
	e.Args = lacks(c, e.Args, api.Expr{Kind: api.Num})
	if c.Intn(30*c.odds) == 0 {
		e.Kind = c.Intn(18) - 1
	}
	return e
}

func (c *chance) aimed(kind, deep int) api.Expr {
	form := c.Intn(7)
	if deep == 0 {
		form = c.Intn(3)
	}
	if form > 4 {
		return c.call(deep)
	}
	switch kind {
	case api.Int:
		return c.whole(form, deep)
	case api.Bool:
		return c.logic(form, deep)
	case api.Ref:
		return c.ref(form, deep)
	}
	return c.expr(1+c.Intn(6), deep)
}

func (c *chance) whole(form, deep int) api.Expr {
	switch form {
	case 0:
		return api.Expr{Kind: api.Num, N: c.Intn(9)}
	case 1:
		return api.Expr{Kind: api.Name, Name: c.named(api.Int, api.Range)}
	case 2:
		return api.Expr{Kind: api.Count, Name: c.named(api.Timer)}
	case 3:
		return api.Expr{Kind: api.Index, Name: c.named(api.Array), Args: []api.Expr{c.expr(api.Int, deep-1)}}
	}
	if c.Intn(2) == 0 {
		return api.Expr{Kind: api.Neg, Args: []api.Expr{c.expr(api.Int, deep-1)}}
	}
	return api.Expr{Kind: api.Bin, N: 1 + c.Intn(5), Args: []api.Expr{c.expr(api.Int, deep-1), c.expr(api.Int, deep-1)}}
}

func (c *chance) logic(form, deep int) api.Expr {
	switch form {
	case 0:
		return api.Expr{Kind: api.True + c.Intn(2)}
	case 1:
		return api.Expr{Kind: api.Name, Name: c.named(api.Bool)}
	case 2:
		return api.Expr{Kind: api.Out, Name: c.named(api.Timer)}
	case 3:
		return api.Expr{Kind: api.Not, Args: []api.Expr{c.expr(api.Bool, deep-1)}}
	}
	op := 6 + c.Intn(9)
	kind := []int{api.Int, api.Int, api.Bool}[(op-6)/3]
	if op <= api.Ne {
		kind = []int{api.Int, api.Bool, api.Ref}[c.Intn(3)]
	}
	if c.blind() {
		op = c.Intn(18) - 1
	}
	return api.Expr{Kind: api.Bin, N: op, Args: []api.Expr{c.expr(kind, deep-1), c.expr(kind, deep-1)}}
}

func (c *chance) ref(form, deep int) api.Expr {
	switch form {
	case 0:
		return api.Expr{Kind: api.Null}
	case 1:
		return api.Expr{Kind: api.Name, Name: c.named(api.Ref)}
	case 2:
		return api.Expr{Kind: api.RefOf, Name: c.named(api.Inst)}
	}
	return api.Expr{Kind: api.As, Name: c.declName(), Args: []api.Expr{c.expr(api.Ref, deep-1)}}
}

// call is a call of a method of some name, often with the Args that one of that name has.
func (c *chance) call(deep int) api.Expr {
	e := api.Expr{Kind: api.Invoke, N: c.Intn(3), Name: c.named(api.Ref, api.Inst), What: c.methodName()}
	if c.w.Method < 0 && !c.blind() {
		e.N = 0
	}
	if c.Intn(20*c.odds) == 0 {
		e.N = c.Intn(6) - 1
	}
	var all []api.Method
	for _, d := range c.u.Decls {
		all = append(all, d.Methods...)
	}
	if len(all) == 0 {
		return e
	}
	m := all[c.Intn(len(all))]
	e.What = m.Name
	for _, p := range m.Params {
		kind := p.Type.Kind
		if kind == api.Range {
			kind = api.Int
		}
		e.Args = append(e.Args, c.expr(kind, max(0, deep-1)))
	}
	return e
}

func (c *chance) list(deep int) []api.Stmt {
	var list []api.Stmt
	for range c.Intn(3) {
		list = append(list, c.stmt(deep))
	}
	return list
}

func (c *chance) stmt(deep int) api.Stmt {
	s := c.simple()
	if deep > 0 && c.Intn(3) == 0 {
		s = c.nest(deep - 1)
	}
	s.Exprs = lacks(c, s.Exprs, api.Expr{Kind: api.True})
	s.Blocks = lacks(c, s.Blocks, nil)
	s.Labels = lacks(c, s.Labels, []int{c.Intn(9)})
	if c.Intn(30*c.odds) == 0 {
		s.Kind = c.Intn(14) - 1
	}
	return s
}

func (c *chance) simple() api.Stmt {
	whole, logic, ref := func() api.Expr { return c.expr(api.Int, 2) }, func() api.Expr { return c.expr(api.Bool, 2) }, func() api.Expr { return c.expr(api.Ref, 2) }
	switch c.Intn(9) {
	case 0:
		return api.Stmt{Kind: api.Assign, Name: c.named(api.Int, api.Range), Exprs: []api.Expr{whole()}}
	case 1:
		return api.Stmt{Kind: api.Assign, Name: c.named(api.Bool), Exprs: []api.Expr{logic()}}
	case 2:
		return api.Stmt{Kind: api.Assign, Name: c.named(api.Ref), Exprs: []api.Expr{ref()}}
	case 3:
		return api.Stmt{Kind: api.Put, Name: c.named(api.Array), Exprs: []api.Expr{whole(), whole()}}
	case 4:
		return api.Stmt{Kind: api.Attempt, Name: c.named(api.Ref), Exprs: []api.Expr{ref()}}
	case 5:
		return api.Stmt{Kind: api.Do, Exprs: []api.Expr{c.call(2)}}
	case 6:
		return api.Stmt{Kind: api.Exit}
	case 7:
		return api.Stmt{Kind: api.Step, Name: c.named(api.Timer), Exprs: []api.Expr{logic(), whole()}}
	}
	s := api.Stmt{Kind: api.Return}
	if c.Intn(2) == 0 {
		s.Exprs = []api.Expr{c.expr(1+c.Intn(2), 2)}
	}
	return s
}

func (c *chance) nest(deep int) api.Stmt {
	switch c.Intn(4) {
	case 0:
		s := api.Stmt{Kind: api.If, Blocks: [][]api.Stmt{c.list(deep)}}
		for range 1 + c.Intn(2) {
			s.Exprs = append(s.Exprs, c.expr(api.Bool, 1))
			s.Blocks = append(s.Blocks, c.list(deep))
		}
		return s
	case 1:
		s := api.Stmt{Kind: api.Case, Exprs: []api.Expr{c.expr(api.Int, 1)}, Blocks: [][]api.Stmt{c.list(deep)}}
		for i := range c.Intn(3) {
			labels := []int{i, 10 + c.Intn(99)}
			if c.Intn(6) == 0 {
				labels = [][]int{{}, {-32768, 32767}, {-32769}, {32768}, {1, 1}}[c.Intn(5)]
			}
			s.Labels = append(s.Labels, labels)
			s.Blocks = append(s.Blocks, c.list(deep))
		}
		return s
	case 2:
		return api.Stmt{Kind: api.While, Exprs: []api.Expr{c.expr(api.Bool, 1)}, Blocks: [][]api.Stmt{c.list(deep)}}
	}
	return api.Stmt{Kind: api.For, Name: c.named(api.Int), N: c.Intn(9) - 1, Exprs: []api.Expr{c.expr(api.Int, 1), c.expr(api.Int, 1)}, Blocks: [][]api.Stmt{c.list(deep)}}
}

// places are all of a unit, and some that are none.
func places(u api.Unit) []api.Where {
	list := []api.Where{{Decl: -1}, {Decl: len(u.Decls), Method: -1}}
	for d := range u.Decls {
		for m := range len(u.Decls[d].Methods) + 2 {
			list = append(list, api.Where{Decl: d, Method: m - 1})
		}
	}
	return list
}

// told counts how often each code was told.
type told map[int]int

// enough is how often at least each of these must have been told.
func (n told) enough(t *testing.T, what string, codes ...int) {
	t.Helper()
	for _, c := range codes {
		if n[c] < 100 {
			t.Errorf("%s: code %d was told %d times: %v", what, c, n[c], n)
		}
	}
}

// TestByChance holds what is made by chance against the reading.
func TestByChance(t *testing.T) {
	exprs, lists := told{}, told{}
	for seed := range 6000 {
		c := &chance{Rand: rand.New(rand.NewSource(int64(seed))), odds: 4 + seed%40}
		c.unit()
		for _, w := range places(c.u) {
			r := &reading{u: c.u, w: w}
			c.w, c.vars = w, nil
			ended(func() { c.vars = r.visible() })
			if got := typing.Visible(c.u, w); !slices.Equal(got, c.vars) {
				t.Fatalf("P7.1: Visible(%v, %v) is %v, not %v", c.u, w, got, c.vars)
			}
			e := c.expr(1+c.Intn(5), 3)
			var want api.Type
			code := ended(func() { r.inClass(); want = r.expr(e) })
			if got, told := typing.Expr(c.u, w, e); got != want || told != code {
				t.Fatalf("P7.2: Expr(%v, %v, %v) is %v, %d, not %v, %d", c.u, w, e, got, told, want, code)
			}
			exprs[code]++
			l := []api.Stmt{c.stmt(2)}
			if c.blind() {
				l = append(l, c.list(2)...)
			}
			code = ended(func() { r.inClass(); r.list(l) })
			if told := typing.Stmts(c.u, w, l); told != code {
				t.Fatalf("P7.3: Stmts(%v, %v, %v) is %d, not %d", c.u, w, l, told, code)
			}
			lists[code]++
		}
		to, from := c.typeOf(), c.typeOf()
		if got, want := typing.Fits(c.u, to, from), (&reading{u: c.u}).fits(to, from); got != want {
			t.Fatalf("P7.1: Fits(%v, %v, %v) is %v", c.u, to, from, got)
		}
		again := &chance{Rand: rand.New(rand.NewSource(int64(seed))), odds: c.odds}
		if again.unit(); !reflect.DeepEqual(c.u, again.u) {
			t.Fatalf("R4: %v is changed", again.u)
		}
	}
	exprs.enough(t, "P7.2", api.Fine, api.Unknown, api.Typing, api.Call, api.Arg)
	lists.enough(t, "P7.3", api.Fine, api.Unknown, api.Typing, api.Call, api.Arg, api.Twice)
}
