package table_test

import (
	"math/rand"
	"reflect"
	"slices"
	"testing"

	"governor/api"
	"governor/table"
)

// names are what declarations, bases, faces and methods are called in units made by chance.
var names = []string{"", "A", "B", "C", "D", "a"}

// chance makes units.
type chance struct{ *rand.Rand }

func (c chance) name() string { return names[c.Intn(len(names))] }

// typeOf answers one of few types, so that two are often the same.
func (c chance) typeOf() api.Type {
	return api.Type{Kind: c.Intn(3), Lo: c.Intn(8) / 7, Hi: c.Intn(8) / 7, Name: names[c.Intn(12)/11]}
}

func (c chance) vars(most int) []api.Var {
	vars := make([]api.Var, c.Intn(most+1))
	for i := range vars {
		vars[i] = api.Var{Name: c.name(), Type: c.typeOf(), Init: c.Intn(100), Dir: c.Intn(3), Slot: c.Intn(9)}
	}
	return vars
}

func (c chance) method() api.Method {
	return api.Method{Name: c.name(), Over: c.Intn(2) == 0, Abstract: c.Intn(2) == 0, Params: c.vars(2), Result: c.typeOf(), Vars: c.vars(1)}
}

// kind answers a kind, most often Class.
func (c chance) kind() int {
	if c.Intn(3) > 0 {
		return api.Class
	}
	return c.Intn(6)
}

func (c chance) decl() api.Decl {
	d := api.Decl{Kind: c.kind(), Name: c.name(), Base: c.name(), Vars: c.vars(3)}
	for range c.Intn(4) {
		d.Faces = append(d.Faces, c.name())
		d.Methods = append(d.Methods, c.method())
	}
	return d
}

func (c chance) unit() api.Unit {
	var u api.Unit
	for range c.Intn(9) {
		u.Decls = append(u.Decls, c.decl())
	}
	// Among many declarations names are found in another way.
	many := greater(api.Unit{}).Decls
	switch c.Intn(6) {
	case 0:
		u.Decls = append(many, u.Decls...)
	case 1:
		u.Decls = append(u.Decls, many...)
	}
	return u
}

// reading is a unit that is read as the chapter's words stand, from their end: slow, and without an order of its own.
type reading struct{ api.Unit }

func (r reading) find(name string) int {
	for d := len(r.Decls) - 1; d >= 0; d-- {
		if r.Decls[d].Name == name && !slices.ContainsFunc(r.Decls[:d], func(x api.Decl) bool { return x.Name == name }) {
			return d
		}
	}
	return -1
}

func (r reading) of(d, kind int) bool {
	return 0 <= d && d < len(r.Decls) && r.Decls[d].Kind == kind
}

// chain answers what goes on behind those that were met.
func (r reading) chain(d int, met ...int) []int {
	if !r.of(d, api.Class) || slices.Contains(met, d) {
		return met
	}
	return r.chain(r.find(r.Decls[d].Base), append(met, d)...)
}

func (r reading) faces(d int) []int {
	var all, once []int
	for _, class := range r.chain(d) {
		for _, face := range r.Decls[class].Faces {
			all = append(all, r.find(face))
		}
	}
	for i, face := range all {
		if r.of(face, api.Interface) && slices.Index(all, face) == i {
			once = append(once, face)
		}
	}
	return once
}

func (r reading) is(name, what string) bool {
	d, other := r.find(name), r.find(what)
	class := r.of(d, api.Class)
	if d < 0 || !class && !r.of(d, api.Interface) {
		return false
	}
	return name == what || class && slices.Contains(append(r.chain(d), r.faces(d)...), other)
}

// method goes through all methods from the end, so that the first of that name is what is left.
func (r reading) method(d int, name string) (place api.Where, found bool) {
	homes := r.chain(d)
	if r.of(d, api.Interface) {
		homes = []int{d}
	}
	for i := len(homes) - 1; i >= 0; i-- {
		for m := len(r.Decls[homes[i]].Methods) - 1; m >= 0; m-- {
			if r.Decls[homes[i]].Methods[m].Name == name {
				place, found = api.Where{Decl: homes[i], Method: m}, true
			}
		}
	}
	return place, found
}

func (r reading) fields(d int) []api.Var {
	if r.of(d, api.Program) {
		return r.Decls[d].Vars
	}
	var fields []api.Var
	for _, class := range r.chain(d) {
		fields = append(append([]api.Var{}, r.Decls[class].Vars...), fields...)
	}
	return fields
}

func alike(a, b api.Method) bool {
	types := func(m api.Method) []api.Type {
		list := []api.Type{m.Result}
		for _, p := range m.Params {
			list = append(list, p.Type)
		}
		return list
	}
	return reflect.DeepEqual(types(a), types(b))
}

// TestByChance holds units made by chance against the reading.
func TestByChance(t *testing.T) {
	for seed := range 3000 {
		c := chance{rand.New(rand.NewSource(int64(seed)))}
		u := c.unit()
		r := reading{u}
		for d := -1; d <= len(u.Decls); d++ {
			if got, want := table.Chain(u, d), r.chain(d); !same(got, want) {
				t.Fatalf("P6.1: Chain(%v, %d) is %d, not %d", u, d, got, want)
			}
			if got, want := table.Faces(u, d), r.faces(d); !same(got, want) {
				t.Fatalf("P6.1: Faces(%v, %d) is %d, not %d", u, d, got, want)
			}
			if got, want := table.Fields(u, d), r.fields(d); !slices.Equal(got, want) {
				t.Fatalf("P6.2: Fields(%v, %d) is %v, not %v", u, d, got, want)
			}
			for _, name := range names {
				got, ok := table.Method(u, d, name)
				if want, found := r.method(d, name); got != want || ok != found {
					t.Fatalf("P6.2: Method(%v, %d, %q) is %v, %v, not %v, %v", u, d, name, got, ok, want, found)
				}
			}
		}
		for _, name := range append(names, "behind", "none") {
			if got, want := table.Find(u, name), r.find(name); got != want {
				t.Fatalf("P6.1: Find(%v, %q) is %d, not %d", u, name, got, want)
			}
			for _, what := range names {
				if got, want := table.Is(u, name, what), r.is(name, what); got != want {
					t.Fatalf("P6.1: Is(%v, %q, %q) is %v", u, name, what, got)
				}
			}
		}
		if again := (chance{rand.New(rand.NewSource(int64(seed)))}).unit(); !reflect.DeepEqual(u, again) {
			t.Fatalf("R4: %v is changed", again)
		}
	}
}

// TestAlikeByChance holds methods made by chance against the reading.
func TestAlikeByChance(t *testing.T) {
	c := chance{rand.New(rand.NewSource(1))}
	told := [2]int{}
	for range 20000 {
		a, b := c.method(), c.method()
		if got, want := table.Alike(a, b), alike(a, b); got != want {
			t.Fatalf("P6.2: Alike(%v, %v) is %v", a, b, got)
		} else if want {
			told[1]++
		} else {
			told[0]++
		}
	}
	if told[0] < 100 || told[1] < 100 {
		t.Errorf("too few of one kind: %d", told)
	}
}
