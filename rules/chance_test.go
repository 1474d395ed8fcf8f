package rules_test

import (
	"math/rand"
	"reflect"
	"slices"
	"strconv"
	"testing"

	"governor/api"
	"governor/rules"
)

// chance makes units. It aims at what is well: one time in odds it does not look.
type chance struct {
	*rand.Rand
	odds int
	u    api.Unit
}

// blind tells whether to take anything.
func (c *chance) blind() bool { return c.Intn(c.odds) == 0 }

func (c *chance) one(names ...string) string { return names[c.Intn(len(names))] }

func (c *chance) number(list ...int) int { return list[c.Intn(len(list))] }

// named is the name of a declaration of those kinds, that is there already.
func (c *chance) named(kinds ...int) string {
	names := []string{}
	for _, d := range c.u.Decls {
		if slices.Contains(kinds, d.Kind) {
			names = append(names, d.Name)
		}
	}
	if len(names) == 0 || c.blind() {
		return c.one("", "Z", "D0", "D1", "D3", "D5", "D8")
	}
	return c.one(names...)
}

// typeOf is a type of what a result, a parameter, a field, or a program's variable may be of.
func (c *chance) typeOf(kinds ...int) api.Type {
	t := api.Type{Kind: c.number(kinds...)}
	if c.blind() {
		t.Kind = c.Intn(10) - 1
	}
	switch t.Kind {
	case api.Range:
		t.Lo, t.Hi = c.number(-32768, -3, 0, 2), c.number(2, 5, 32767)
		if c.blind() {
			t.Lo, t.Hi = c.number(-32769, 3, 32767), c.number(2, 32768, -5)
		}
	case api.Array:
		t.Hi = c.number(0, 3, 7)
		if c.blind() {
			t.Hi = c.number(-1, 8, 9)
		}
	case api.Ref:
		t.Name = c.named(api.Class, api.Interface)
	case api.Inst:
		t.Name = c.named(api.Class)
	case api.Timer:
		t.Lo = 1 + c.Intn(7)
		if c.blind() {
			t.Lo = c.number(0, 8, -1)
		}
	}
	return t
}

// starts is what a variable of a type is at first.
func (c *chance) starts(t api.Type) int {
	if c.blind() {
		return c.number(-32769, 32768, 2, 1, -1)
	}
	switch t.Kind {
	case api.Int:
		return c.number(-32768, 0, 7, 32767)
	case api.Bool:
		return c.Intn(2)
	case api.Range:
		return c.number(t.Lo, t.Hi)
	}
	return 0
}

// vars are variables with names that no others are likely to have.
func (c *chance) vars(most int, kinds ...int) []api.Var {
	var list []api.Var
	if c.blind() {
		most *= 5
	}
	for range c.Intn(most + 1) {
		v := api.Var{Name: "v" + strconv.Itoa(c.Intn(40*c.odds)), Type: c.typeOf(kinds...)}
		v.Init = c.starts(v.Type)
		if c.Intn(6*c.odds) == 0 {
			v.Dir = c.number(1, 2, 3, -1)
		}
		list = append(list, v)
	}
	return list
}

// methodsOf are the methods that one of that name has in a unit's classes, or interfaces.
func (c *chance) methodsOf(name string) []api.Method {
	for _, d := range c.u.Decls {
		if d.Name == name {
			return append(slices.Clone(d.Methods), c.inherited(d)...)
		}
	}
	return nil
}

// inherited are those of a declaration's base, if there is one ahead.
func (c *chance) inherited(d api.Decl) []api.Method {
	for _, base := range c.u.Decls {
		if base.Name == d.Base && d.Base != d.Name {
			return base.Methods
		}
	}
	return nil
}

func (c *chance) method() api.Method {
	m := api.Method{Name: "m" + strconv.Itoa(c.Intn(20*c.odds)), Final: c.Intn(6) == 0, Result: c.typeOf(api.None, api.Int, api.Bool)}
	m.Params = c.vars(2, api.Int, api.Bool, api.Ref)
	m.Vars = c.vars(2, api.Int, api.Bool, api.Ref, api.Range, api.Array)
	if c.blind() {
		m.Over = !m.Over
	}
	return m
}

// again is a method like one that is there, so that it overrides it, or answers an interface with it.
func (c *chance) again(m api.Method, over bool) api.Method {
	m.Over, m.Abstract, m.Final, m.Params = over, false, c.Intn(6) == 0, slices.Clone(m.Params)
	if c.blind() {
		m.Params = c.vars(2, api.Int, api.Bool, api.Ref)
	}
	if c.blind() {
		m.Over = !m.Over
	}
	return m
}

func (c *chance) body(vars []api.Var, result api.Type) []api.Stmt {
	var list []api.Stmt
	for _, v := range vars {
		if v.Type.Kind == api.Int && v.Dir != 1 {
			list = append(list, api.Stmt{Kind: api.Assign, Name: v.Name, Exprs: []api.Expr{{Kind: api.Num}}})
		}
	}
	if result.Kind == api.Int {
		list = append(list, api.Stmt{Kind: api.Return, Exprs: []api.Expr{{Kind: api.Num}}})
	}
	if c.blind() {
		list = append(list, api.Stmt{Kind: c.Intn(13), Name: c.one("none", "v1", "v2"), Exprs: []api.Expr{{Kind: c.number(api.Num, api.Name), Name: c.one("none", "v1")}}})
	}
	return list
}

func (c *chance) class(d *api.Decl) {
	d.Abstract, d.Final, d.Vars = c.Intn(3) == 0, c.Intn(8) == 0, c.vars(2, api.Int, api.Bool, api.Ref, api.Range, api.Array)
	if d.Abstract && !c.blind() {
		d.Final = false
	}
	if c.Intn(3) > 0 {
		d.Base = c.named(api.Class)
	}
	if c.Intn(2) == 0 {
		d.Faces = append(d.Faces, c.named(api.Interface))
	}
	for c.blind() {
		d.Faces = append(d.Faces, c.named(api.Interface))
	}
	for range c.Intn(3) {
		d.Methods = append(d.Methods, c.method())
	}
	for _, m := range c.methodsOf(d.Base) {
		if (m.Abstract || c.Intn(3) == 0) && !slices.Contains(methodNames(d.Methods), m.Name) && (!m.Final || c.blind()) {
			d.Methods = append(d.Methods, c.again(m, true))
		}
	}
	over := methodNames(c.methodsOf(d.Base))
	for _, name := range d.Faces {
		for _, m := range c.methodsOf(name) {
			if !slices.Contains(methodNames(d.Methods), m.Name) && !c.blind() {
				d.Methods = append(d.Methods, c.again(m, slices.Contains(over, m.Name)))
			}
		}
	}
	for i := range d.Methods {
		m := &d.Methods[i]
		if d.Abstract && c.Intn(3) == 0 {
			m.Abstract, m.Final, m.Vars = true, c.blind(), nil
		}
		if !m.Abstract || c.blind() {
			m.Body = c.body(append(slices.Clone(m.Vars), d.Vars...), m.Result)
		}
		m.Abstract = m.Abstract != c.blind()
	}
}

func (c *chance) program(d *api.Decl) {
	d.Vars = c.vars(6, api.Int, api.Int, api.Int, api.Bool, api.Bool, api.Ref, api.Range, api.Array, api.Inst, api.Timer)
	for i := range d.Vars {
		v := &d.Vars[i]
		if c.Intn(2) == 0 && (v.Type.Kind == api.Int || v.Type.Kind == api.Bool) {
			v.Dir, v.Slot = 1+c.Intn(2), c.Intn(8)
		}
		if c.blind() {
			v.Slot = c.number(-1, 0, 7, 8)
		}
	}
	d.Body = c.body(d.Vars, api.Type{})
}

func (c *chance) decl(kind int) {
	d := api.Decl{Kind: kind, Name: "D" + strconv.Itoa(len(c.u.Decls))}
	if c.blind() {
		d.Name = c.one("D0", "D1", "D2", "", "E")
	}
	switch kind {
	case api.Interface:
		for range c.Intn(3) {
			d.Methods = append(d.Methods, c.method())
		}
	case api.Program:
		c.program(&d)
	case api.TaskOf:
		d.Base, d.Every, d.First = c.named(api.Program), 1+c.Intn(100), c.Intn(10)
		if c.blind() {
			d.Every, d.First = c.number(-1, 0, 1, 100, 101), c.number(-1, 0, 9, 10)
		}
	default:
		c.class(&d)
	}
	c.u.Decls = append(c.u.Decls, d)
}

func (c *chance) unit() api.Unit {
	c.u = api.Unit{}
	for range 1 + c.Intn(9) {
		c.decl(c.number(api.Interface, api.Interface, api.Class, api.Class, api.Class, api.Class, api.Program, api.TaskOf))
		if c.blind() {
			c.decl(c.Intn(7) - 1)
		}
	}
	if c.blind() {
		i, j := c.Intn(len(c.u.Decls)), c.Intn(len(c.u.Decls))
		c.u.Decls[i], c.u.Decls[j] = c.u.Decls[j], c.u.Decls[i]
	}
	return c.u
}

// TestByChance holds units made by chance against the reading.
func TestByChance(t *testing.T) {
	told := map[[2]int]int{}
	for seed := range 20000 {
		c := &chance{Rand: rand.New(rand.NewSource(int64(seed))), odds: 6 + seed%60}
		u := c.unit()
		var all []api.Wrong
		for d := -1; d <= len(u.Decls); d++ {
			want := reading{u, d}.code()
			if got := rules.Decl(u, d); got != want {
				t.Fatalf("P8.2: Decl(%v, %d) is %d, not %d", u, d, got, want)
			}
			if d < 0 || d == len(u.Decls) {
				continue
			}
			told[[2]int{u.Decls[d].Kind, want}]++
			if want != api.Fine {
				all = append(all, api.Wrong{Code: want, At: d})
			}
		}
		if got := rules.Unit(u); !slices.Equal(got, all) {
			t.Fatalf("P8.3: Unit(%v) is %v, not %v", u, got, all)
		}
		again := &chance{Rand: rand.New(rand.NewSource(int64(seed))), odds: c.odds}
		if !reflect.DeepEqual(u, again.unit()) {
			t.Fatalf("R4: %v is changed", again.u)
		}
	}
	for kind, codes := range map[int][]int{
		api.Interface: {api.Fine, api.Size, api.Twice, api.Kind},
		api.Class:     {api.Fine, api.Size, api.Twice, api.Base, api.Face, api.Kind, api.Init, api.Abstract, api.Over, api.Unknown, api.Typing},
		api.Program:   {api.Fine, api.Size, api.Twice, api.Kind, api.Init, api.Slot, api.Unknown, api.Typing},
		api.TaskOf:    {api.Fine, api.Twice, api.Task},
		0:             {api.Arg},
	} {
		for _, code := range codes {
			if n := told[[2]int{kind, code}]; n < 50 {
				t.Errorf("P8.2: of kind %d code %d was told %d times", kind, code, n)
			}
		}
	}
	if testing.Verbose() {
		t.Log(told)
	}
}
