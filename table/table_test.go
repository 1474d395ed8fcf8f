package table_test

import (
	"math"
	"reflect"
	"slices"
	"strconv"
	"sync"
	"testing"
	"time"

	"governor/api"
	"governor/syntax"
	"governor/table"
)

func class(name, base string, faces ...string) api.Decl {
	return api.Decl{Kind: api.Class, Name: name, Base: base, Faces: faces}
}

func other(kind int, name string) api.Decl { return api.Decl{Kind: kind, Name: name} }

func unit(decls ...api.Decl) api.Unit { return api.Unit{Decls: decls} }

// greater is a unit with so many declarations behind it, all of them none,
// that names are found in another way.
func greater(u api.Unit) api.Unit {
	decls := slices.Clone(u.Decls)
	for range 40 {
		decls = append(decls, other(0, "behind"))
	}
	return api.Unit{Decls: decls}
}

// with is a declaration with methods of these names.
func with(d api.Decl, methods ...string) api.Decl {
	for _, name := range methods {
		d.Methods = append(d.Methods, api.Method{Name: name})
	}
	return d
}

// having is a declaration with variables of these names, each told from the others by all its fields.
func having(d api.Decl, vars ...string) api.Decl {
	for i, name := range vars {
		t := api.Type{Kind: api.Range, Lo: -i, Hi: i + 1, Name: d.Name}
		d.Vars = append(d.Vars, api.Var{Name: name, Type: t, Init: i + 2, Dir: i + 3, Slot: i + 4})
	}
	return d
}

// read is the unit of a source.
func read(t *testing.T, src string) api.Unit {
	t.Helper()
	u, _, err := syntax.Parse(src)
	if err != nil {
		t.Fatalf("%q: %v", src, err)
	}
	return u
}

// noNumbers are no declaration's numbers, in a unit of n.
func noNumbers(n int) []int {
	return []int{-1, -2, n, n + 1, 1 << 32, -1 << 32, math.MaxInt, math.MinInt}
}

// noClasses has a declaration of each kind but Class, and of kinds that are none, all with whatever a class may have.
func noClasses() api.Unit {
	u := unit(class("A", "", "I"), other(api.Interface, "I"))
	for _, kind := range []int{api.Interface, api.Program, api.TaskOf, 0, 5, -1, math.MaxInt, math.MinInt} {
		d := having(with(class("no"+strconv.Itoa(kind), "A", "I"), "m"), "v")
		d.Kind = kind
		u.Decls = append(u.Decls, d)
	}
	return u
}

// same tells whether two lists are: none and an empty one are the same.
func same(a, b []int) bool { return slices.Equal(a, b) }

func TestFind(t *testing.T) {
	u := unit(class("A", ""), other(api.Program, "P"), other(api.TaskOf, "A"), other(api.Interface, "I"), other(api.TaskOf, "T"), other(0, "z"), other(9, ""), class("P", ""), class("", ""), class("\x00\xff", ""))
	for name, want := range map[string]int{"A": 0, "P": 1, "I": 3, "T": 4, "z": 5, "": 6, "\x00\xff": 9, "a": -1, "AA": -1, "A ": -1, "B": -1, "\x00": -1} {
		if got := table.Find(u, name); got != want {
			t.Errorf("P6.1: Find(%q) is %d, not %d", name, got, want)
		}
	}
	for _, name := range []string{"", "A"} {
		if got := table.Find(api.Unit{}, name); got != -1 {
			t.Errorf("P6.1: Find(%q) in no unit is %d", name, got)
		}
	}
	if got := table.Find(unit(with(having(class("A", "B", "C"), "v"), "m")), "B"); got != -1 {
		t.Errorf("P6.1: Find of a base's name is %d", got)
	}
}

func TestChain(t *testing.T) {
	for _, x := range []struct {
		u    api.Unit
		d    int
		want []int
	}{
		{read(t, "CLASS A ; END_CLASS CLASS B EXTENDS A ; END_CLASS"), 1, []int{1, 0}},
		{read(t, "CLASS A ; END_CLASS CLASS B EXTENDS A ; END_CLASS"), 0, []int{0}},
		{unit(class("A", ""), class("B", "A"), class("C", "B"), class("D", "A")), 2, []int{2, 1, 0}},
		{unit(class("A", ""), class("B", "A"), class("C", "B"), class("D", "A")), 3, []int{3, 0}},
		// A base behind its class.
		{unit(class("A", "C"), class("B", ""), class("C", "B")), 0, []int{0, 2, 1}},
		// A base that is none, or no class.
		{unit(class("A", "X")), 0, []int{0}},
		{unit(class("A", ""), class("B", "X")), 1, []int{1}},
		{unit(class("A", "B"), other(api.Interface, "B")), 0, []int{0}},
		{unit(class("A", "B"), other(api.Program, "B")), 0, []int{0}},
		{unit(class("A", "B"), other(api.TaskOf, "B")), 0, []int{0}},
		{unit(class("A", "B"), other(0, "B")), 0, []int{0}},
		{unit(class("A", "B", "B"), class("B", "C"), other(5, "C")), 0, []int{0, 1}},
		// A base of a name that stands there twice: the first one counts, whatever it is.
		{unit(class("A", "B"), class("B", ""), class("B", "C"), class("C", "")), 0, []int{0, 1}},
		{unit(class("A", "B"), class("B", "C"), class("B", ""), class("C", "")), 0, []int{0, 1, 3}},
		{unit(class("A", "B"), other(api.Program, "B"), class("B", "")), 0, []int{0}},
		{unit(class("A", ""), class("A", "A"), class("A", "A")), 2, []int{2, 0}},
		// Bases that come back in a ring.
		{unit(class("A", "A")), 0, []int{0}},
		{unit(class("A", "B"), class("B", "A")), 0, []int{0, 1}},
		{unit(class("A", "B"), class("B", "A")), 1, []int{1, 0}},
		{unit(class("A", "B"), class("B", "C"), class("C", "A")), 1, []int{1, 2, 0}},
		{unit(class("A", "B"), class("B", "C"), class("C", "B")), 0, []int{0, 1, 2}},
		{unit(class("A", "A"), class("A", "A")), 1, []int{1, 0}},
		// An empty name is one, too.
		{unit(class("A", "")), 0, []int{0}},
		{unit(class("A", ""), class("", "")), 0, []int{0, 1}},
		{unit(class("A", ""), other(api.Program, "")), 0, []int{0}},
	} {
		for _, u := range []api.Unit{x.u, greater(x.u)} {
			if got := table.Chain(u, x.d); !same(got, x.want) {
				t.Errorf("P6.1: Chain(%v, %d) is %d, not %d", u, x.d, got, x.want)
			}
		}
	}
}

func TestFaces(t *testing.T) {
	i, j, k := other(api.Interface, "I"), other(api.Interface, "J"), other(api.Interface, "K")
	for _, x := range []struct {
		u    api.Unit
		d    int
		want []int
	}{
		{read(t, "INTERFACE I ; END_INTERFACE CLASS A IMPLEMENTS I ; END_CLASS"), 1, []int{0}},
		{unit(i, j, k, class("A", "", "K", "I", "J")), 3, []int{2, 0, 1}},
		{unit(i, class("A", "")), 1, nil},
		// Its own ones first, then its base's, each where it was met first.
		{unit(i, j, k, class("A", "", "I", "J"), class("B", "A", "K")), 4, []int{2, 0, 1}},
		{unit(i, j, k, class("A", "", "I", "J"), class("B", "A", "K")), 3, []int{0, 1}},
		{unit(i, j, k, class("A", "", "I", "J"), class("B", "A", "J", "K", "J")), 4, []int{1, 2, 0}},
		{unit(i, j, k, class("A", "", "K"), class("B", "A"), class("C", "B", "J", "K", "I", "K")), 5, []int{1, 2, 0}},
		// Interfaces behind the class.
		{unit(class("B", "A", "J"), class("A", "", "I"), i, j), 0, []int{3, 2}},
		// Faces that are none, or no interface.
		{unit(i, class("A", "", "X", "I", "Y")), 1, []int{0}},
		{unit(i, j, class("A", "", "X", "J")), 2, []int{1}},
		{unit(i, class("A", "", "A", "B", "P", "T", "z", "I"), class("B", "", "I"), other(api.Program, "P"), other(api.TaskOf, "T"), other(0, "z")), 1, []int{0}},
		// A name that stands there twice: the first one counts, whatever it is.
		{unit(class("A", "", "I", "I"), j, i, i), 0, []int{2}},
		{unit(class("A", "", "I", "J"), other(api.Program, "I"), i, j), 0, []int{3}},
		// Bases that are none, or come back in a ring.
		{unit(i, j, class("A", "X", "J")), 2, []int{1}},
		{unit(i, j, other(api.Program, "X"), class("A", "X", "J")), 3, []int{1}},
		{unit(i, j, class("A", "A", "J", "I")), 2, []int{1, 0}},
		{unit(i, j, k, class("A", "B", "K"), class("B", "C", "J"), class("C", "B", "I", "K")), 3, []int{2, 1, 0}},
		{unit(i, j, k, class("A", "B", "K"), class("B", "C", "J"), class("C", "B", "I", "K")), 4, []int{1, 0, 2}},
		// What an interface says of others is not asked.
		{unit(api.Decl{Kind: api.Interface, Name: "I", Base: "J", Faces: []string{"K"}}, j, k, class("A", "", "I")), 3, []int{0}},
		// An empty name is one, too.
		{unit(class("A", "", ""), other(api.Interface, "")), 0, []int{1}},
	} {
		for _, u := range []api.Unit{x.u, greater(x.u)} {
			if got := table.Faces(u, x.d); !same(got, x.want) {
				t.Errorf("P6.1: Faces(%v, %d) is %d, not %d", u, x.d, got, x.want)
			}
		}
	}
}

// TestNoClass has numbers that are no declaration's, and of what has no chain.
func TestNoClass(t *testing.T) {
	u := noClasses()
	numbers := noNumbers(len(u.Decls))
	for d := 1; d < len(u.Decls); d++ {
		numbers = append(numbers, d)
	}
	for _, d := range numbers {
		if chain, faces := table.Chain(u, d), table.Faces(u, d); len(chain)+len(faces) > 0 {
			t.Errorf("P6.1: number %d: chain %d, faces %d", d, chain, faces)
		}
	}
	for _, d := range noNumbers(0) {
		if chain, faces := table.Chain(api.Unit{}, d), table.Faces(api.Unit{}, d); len(chain)+len(faces) > 0 {
			t.Errorf("P6.1: number %d in no unit: chain %d, faces %d", d, chain, faces)
		}
	}
}

func TestIs(t *testing.T) {
	u := unit(
		other(api.Interface, "I"), other(api.Interface, "J"), other(api.Interface, "K"),
		class("A", "", "I"), class("B", "A", "J"), class("C", "B"), class("D", "A"),
		other(api.Program, "P"), other(api.TaskOf, "T"), other(0, "z"),
		api.Decl{Kind: api.Interface, Name: "L", Base: "A", Faces: []string{"I"}},
		class("E", "P", "A", "P", "T"), class("R", "S"), class("S", "R", "K"), class("Q", "S"),
		// Declared a second time: the first ones count.
		class("K", "A"), other(api.Interface, "D"), class("P", "A", "I"), other(api.Interface, "T"), class("A", "S"),
	)
	is := map[string][]string{
		"I": {"I"}, "J": {"J"}, "K": {"K"}, "L": {"L"}, "A": {"A", "I"}, "B": {"B", "A", "I", "J"},
		"C": {"C", "B", "A", "I", "J"}, "D": {"D", "A", "I"}, "E": {"E"},
		"R": {"R", "S", "K"}, "S": {"R", "S", "K"}, "Q": {"Q", "R", "S", "K"},
	}
	names := []string{"", "X", "i", "a"}
	for _, d := range u.Decls {
		names = append(names, d.Name)
	}
	for _, name := range names {
		for _, what := range names {
			if got, want := table.Is(u, name, what), slices.Contains(is[name], what); got != want {
				t.Errorf("P6.1: Is(%q, %q) is %v", name, what, got)
			}
		}
	}
	if table.Is(greater(u), "E", "I") || !table.Is(greater(u), "C", "I") {
		t.Error("P6.1: Is in a greater unit")
	}
	if table.Is(api.Unit{}, "", "") || table.Is(api.Unit{}, "A", "A") {
		t.Error("P6.1: Is in no unit")
	}
	if u := unit(class("", "A"), class("A", "")); !table.Is(u, "", "") || !table.Is(u, "", "A") || !table.Is(u, "A", "") {
		t.Error("P6.1: Is of an empty name")
	}
	if u := unit(class("A", ""), class("B", "A"), class("B", "X"), class("C", "B")); !table.Is(u, "C", "A") || !table.Is(u, "B", "A") {
		t.Error("P6.1: Is of a name that stands there twice")
	}
}

func TestMethod(t *testing.T) {
	u := unit(
		with(other(api.Interface, "I"), "m", "n", "n", ""),
		with(class("A", "", "I"), "m", "n", "o", "o", "p"),
		with(class("B", "A"), "q", "n", "", "n"),
		with(class("C", "B"), "o"),
		// What is no class's, or not its chain's.
		with(other(api.Program, "P"), "m"), with(other(api.TaskOf, "T"), "m"), with(other(0, "z"), "m"),
		with(class("D", "P", "I"), "x"),
		api.Decl{Kind: api.Interface, Name: "J", Base: "A", Faces: []string{"I"}},
		// A ring, and a base of a name that stands there twice.
		with(class("R", "S"), "a"), with(class("S", "R"), "b", "a"), with(class("Q", "S"), "c"),
		with(class("S", "A"), "d"),
	)
	for _, x := range []struct {
		d    int
		name string
		want api.Where
	}{
		{0, "m", api.Where{Decl: 0, Method: 0}}, {0, "n", api.Where{Decl: 0, Method: 1}}, {0, "", api.Where{Decl: 0, Method: 3}},
		{1, "m", api.Where{Decl: 1, Method: 0}}, {1, "o", api.Where{Decl: 1, Method: 2}}, {1, "p", api.Where{Decl: 1, Method: 4}},
		{2, "m", api.Where{Decl: 1, Method: 0}}, {2, "n", api.Where{Decl: 2, Method: 1}}, {2, "q", api.Where{Decl: 2, Method: 0}}, {2, "", api.Where{Decl: 2, Method: 2}},
		{3, "m", api.Where{Decl: 1, Method: 0}}, {3, "n", api.Where{Decl: 2, Method: 1}}, {3, "o", api.Where{Decl: 3, Method: 0}}, {3, "p", api.Where{Decl: 1, Method: 4}},
		{7, "x", api.Where{Decl: 7, Method: 0}},
		{9, "a", api.Where{Decl: 9, Method: 0}}, {9, "b", api.Where{Decl: 10, Method: 0}}, {10, "a", api.Where{Decl: 10, Method: 1}},
		{11, "a", api.Where{Decl: 10, Method: 1}}, {11, "c", api.Where{Decl: 11, Method: 0}},
		{12, "d", api.Where{Decl: 12, Method: 0}}, {12, "m", api.Where{Decl: 1, Method: 0}},
	} {
		if got, ok := table.Method(u, x.d, x.name); !ok || got != x.want {
			t.Errorf("P6.2: Method(%d, %q) is %v, %v, not %v", x.d, x.name, got, ok, x.want)
		}
	}
	type ask struct {
		d    int
		name string
	}
	none := []ask{{0, "o"}, {0, "M"}, {1, "q"}, {1, ""}, {2, "x"}, {3, "mm"}, {4, "m"}, {5, "m"}, {6, "m"}, {7, "m"}, {8, "m"}, {8, ""}, {9, "c"}, {9, "d"}, {11, "d"}}
	for _, d := range noNumbers(len(u.Decls)) {
		none = append(none, ask{d, "m"}, ask{d, ""})
	}
	for _, x := range none {
		if got, ok := table.Method(u, x.d, x.name); ok || got != (api.Where{}) {
			t.Errorf("P6.2: Method(%d, %q) is %v, %v", x.d, x.name, got, ok)
		}
	}
	if got, ok := table.Method(api.Unit{}, 0, ""); ok || got != (api.Where{}) {
		t.Errorf("P6.2: Method in no unit is %v, %v", got, ok)
	}
}

// TestMethodOfAnyKind finds methods whatever stands at them.
func TestMethodOfAnyKind(t *testing.T) {
	a := class("A", "")
	a.Methods = []api.Method{{Name: "m", Abstract: true}, {Name: "n", Final: true, Over: true}}
	b := class("B", "A")
	b.Abstract, b.Final = true, true
	b.Methods = []api.Method{{Name: "n", Abstract: true, Over: true}}
	for name, want := range map[string]api.Where{"m": {Decl: 0, Method: 0}, "n": {Decl: 1, Method: 0}} {
		if got, ok := table.Method(unit(a, b), 1, name); !ok || got != want {
			t.Errorf("P6.2: Method(1, %q) is %v, %v, not %v", name, got, ok, want)
		}
	}
}

func TestFields(t *testing.T) {
	a, b, c := having(class("A", ""), "x", "y"), having(class("B", "A"), "y", "y", "z"), having(class("C", "B"), "w")
	p, task, face := having(other(api.Program, "P"), "u", "v"), having(other(api.TaskOf, "T"), "u"), having(other(api.Interface, "I"), "u")
	r, s := having(class("R", "S"), "r"), having(class("S", "R", "I"), "s")
	u := unit(a, b, c, p, task, face, r, s, having(other(0, "z"), "u"), class("E", ""), having(class("D", "P", "I"), "d"), having(class("B", "E"), "none"))
	for d, want := range [][]api.Var{
		a.Vars, slices.Concat(a.Vars, b.Vars), slices.Concat(a.Vars, b.Vars, c.Vars), p.Vars, nil, nil,
		slices.Concat(s.Vars, r.Vars), slices.Concat(r.Vars, s.Vars), nil, nil, u.Decls[10].Vars, u.Decls[11].Vars,
	} {
		if got := table.Fields(u, d); !slices.Equal(got, want) {
			t.Errorf("P6.2: Fields(%d) is %v, not %v", d, got, want)
		}
	}
	for _, d := range noNumbers(len(u.Decls)) {
		if got := table.Fields(u, d); len(got) > 0 {
			t.Errorf("P6.2: Fields(%d) is %v", d, got)
		}
	}
	// A program's base is a task's affair: it has no chain.
	p.Base = "A"
	if got := table.Fields(unit(a, p), 1); !slices.Equal(got, p.Vars) {
		t.Errorf("P6.2: Fields of a program with a base is %v", got)
	}
	if got := table.Fields(read(t, "CLASS A ; VAR x : INT := 3 ; END_CLASS CLASS B EXTENDS A ; VAR y : BOOL ; END_CLASS"), 1); !slices.Equal(got, []api.Var{{Name: "x", Type: api.Type{Kind: api.Int}, Init: 3}, {Name: "y", Type: api.Type{Kind: api.Bool}}}) {
		t.Errorf("P6.2: Fields of B extending A is %v", got)
	}
}

func TestAlike(t *testing.T) {
	number, truth, part := api.Type{Kind: api.Int}, api.Type{Kind: api.Bool}, api.Type{Kind: api.Range, Lo: 1, Hi: 2}
	ref := api.Type{Kind: api.Ref, Name: "A"}
	// of is a method that is handed the types behind its first one, and answers that one.
	of := func(result api.Type, params ...api.Type) api.Method {
		m := api.Method{Name: "m", Result: result}
		for _, p := range params {
			m.Params = append(m.Params, api.Var{Name: "p", Type: p})
		}
		return m
	}
	full := of(ref, number, truth, part, ref)
	again := of(ref, number, truth, part, ref)
	again.Name, again.Over, again.Abstract, again.Final = "other", true, true, true
	again.Vars, again.Body = []api.Var{{Name: "v"}}, []api.Stmt{{Kind: api.Exit}}
	for i := range again.Params {
		again.Params[i].Name, again.Params[i].Init, again.Params[i].Dir, again.Params[i].Slot = "q", 5, 1, 2
	}
	empty := of(api.Type{})
	empty.Params = []api.Var{}
	none := api.Type{}
	methods := []api.Method{
		full, empty, of(ref, number, truth, part), of(ref, number, truth, part, ref, ref), of(ref, truth, number, part, ref),
		of(none, number, truth, part, ref), of(api.Type{Kind: api.Ref, Name: "B"}, number, truth, part, ref),
		of(none, number), of(none, truth), of(none, none), of(none, number, number), of(none, part), of(none, ref), of(none, number, truth), of(none, truth, number),
		of(none, api.Type{Kind: api.Range, Lo: 0, Hi: 2}), of(none, api.Type{Kind: api.Range, Lo: 1, Hi: 3}), of(none, api.Type{Kind: api.Ref, Name: "B"}),
		of(none, api.Type{Kind: api.Inst, Name: "A"}), of(none, api.Type{Kind: api.Array, Lo: 1, Hi: 2}),
		of(number), of(truth), of(ref), of(part), of(number, number), of(number, truth),
	}
	for i, a := range methods {
		for j, b := range methods {
			if got := table.Alike(a, b); got != (i == j) {
				t.Errorf("P6.2: Alike(%v, %v) is %v", a, b, got)
			}
		}
	}
	if !table.Alike(full, again) || !table.Alike(again, full) || !table.Alike(empty, api.Method{}) || !table.Alike(api.Method{}, empty) {
		t.Error("P6.2: Alike asks for more than types")
	}
}

// roomy is a unit whose lists all have spare room, with something in it.
func roomy() api.Unit {
	decls := []api.Decl{
		with(having(class("A", "B", "I", "J"), "x"), "m"), with(having(class("B", "C", "J", "I"), "y"), "n"),
		having(class("C", "B"), "z"), other(api.Interface, "I"), other(api.Interface, "J"), having(other(api.Program, "P"), "v"), other(9, "spare"),
	}
	for i := range decls {
		d := &decls[i]
		d.Vars = append(d.Vars, api.Var{Name: "spare"})[:len(d.Vars)]
		d.Faces = append(d.Faces, "spare")[:len(d.Faces)]
		d.Methods = append(d.Methods, api.Method{Name: "spare"})[:len(d.Methods)]
	}
	return api.Unit{Decls: decls[:6]}
}

// whole is a unit with what stands in its lists' spare room.
func whole(u api.Unit) api.Unit {
	decls := slices.Clone(u.Decls[:len(u.Decls)+1])
	for i := range decls {
		d := &decls[i]
		d.Vars, d.Faces, d.Methods = d.Vars[:len(d.Vars)+1], d.Faces[:len(d.Faces)+1], d.Methods[:len(d.Methods)+1]
	}
	return api.Unit{Decls: decls}
}

// TestNothingIsShared writes into all that is answered, and its spare room, and asks again.
func TestNothingIsShared(t *testing.T) {
	u := roomy()
	for d := range u.Decls {
		for _, ask := range []func(api.Unit, int) []int{table.Chain, table.Faces} {
			got := ask(u, d)
			want := slices.Clone(got)
			got = got[:cap(got)]
			for i := range got {
				got[i] = -7
			}
			if !same(ask(u, d), want) {
				t.Errorf("R4: %d is another one when it is asked again", d)
			}
		}
		got := table.Fields(u, d)
		want := slices.Clone(got)
		got = got[:cap(got)]
		for i := range got {
			got[i] = api.Var{Name: "written"}
		}
		if !slices.Equal(table.Fields(u, d), want) {
			t.Errorf("R4: Fields(%d) is another one when it is asked again", d)
		}
	}
	if !reflect.DeepEqual(whole(u), whole(roomy())) {
		t.Error("R4: the unit is changed")
	}
}

// TestAtOneTime has like answers in several goroutines.
func TestAtOneTime(t *testing.T) {
	u := roomy()
	var all sync.WaitGroup
	for range 8 {
		all.Go(func() {
			for range 200 {
				m, ok := table.Method(u, 0, "n")
				if table.Find(u, "P") != 5 || !same(table.Chain(u, 0), []int{0, 1, 2}) || !same(table.Faces(u, 1), []int{4, 3}) || !table.Is(u, "C", "I") || m != (api.Where{Decl: 1}) || !ok || len(table.Fields(u, 0)) != 3 {
					t.Error("R5: another answer")
				}
			}
		})
	}
	all.Wait()
	if !reflect.DeepEqual(whole(u), whole(roomy())) {
		t.Error("R4: the unit is changed")
	}
}

// line is a unit of n classes, each of which extends the next and implements
// an interface of its own, and those n interfaces behind them.
func line(n int) api.Unit {
	var u api.Unit
	name := func(letter string, i int) string { return letter + strconv.Itoa(1000000+i) }
	for i := range n {
		u.Decls = append(u.Decls, having(with(class(name("C", i), name("C", i+1), name("I", i)), name("m", i)), "v"))
	}
	for i := range n {
		u.Decls = append(u.Decls, other(api.Interface, name("I", i)))
	}
	return u
}

// rising answers n numbers from from on.
func rising(from, n int) []int {
	list := make([]int, n)
	for i := range list {
		list[i] = from + i
	}
	return list
}

// TestGreat has units of any size: few declarations, those next to where
// names are found in another way, and as many as there may be.
func TestGreat(t *testing.T) {
	for _, n := range []int{1, 2, 6, 15, 16, 17, 18, 31, 32, 33, 34, 500} {
		u := line(n)
		last := u.Decls[n-1]
		u.Decls = append(u.Decls, other(api.Program, last.Name), other(api.Program, u.Decls[n].Name), having(class("C", u.Decls[0].Name, "X"), "w"))
		all := append([]int{2*n + 2}, rising(0, n)...)
		if got := table.Chain(u, 2*n+2); !same(got, all) {
			t.Errorf("P6.1: Chain of %d is %d", n, got)
		}
		if got := table.Faces(u, 2*n+2); !same(got, rising(n, n)) {
			t.Errorf("P6.1: Faces of %d is %d", n, got)
		}
		if !table.Is(u, "C", last.Name) || !table.Is(u, "C", last.Faces[0]) || table.Is(u, last.Name, "C") {
			t.Errorf("P6.1: Is of %d", n)
		}
		if got, ok := table.Method(u, 2*n+2, last.Methods[0].Name); !ok || got != (api.Where{Decl: n - 1}) {
			t.Errorf("P6.2: Method of %d is %v, %v", n, got, ok)
		}
		if got := table.Fields(u, 2*n+2); len(got) != n+1 || got[0] != last.Vars[0] || got[n].Name != "w" {
			t.Errorf("P6.2: Fields of %d are %d", n, len(got))
		}
	}
}

// TestEnds asks the greatest units, whose answers must come in a time that
// grows as they do: a hundredth of what going through all names takes.
func TestEnds(t *testing.T) {
	const n = 1 << 13
	u := line(n)
	u.Decls[n-1].Base = u.Decls[n/2].Name
	far := u.Decls[2*n-1].Name
	began := time.Now()
	for d := range 10 {
		if len(table.Chain(u, d)) != n-d || len(table.Faces(u, d)) != n-d || len(table.Fields(u, d)) != n-d || !table.Is(u, u.Decls[d].Name, far) {
			t.Errorf("R1: number %d", d)
		}
		if got, ok := table.Method(u, d, u.Decls[n-1].Methods[0].Name); !ok || got.Decl != n-1 {
			t.Errorf("R1: Method of %d is %v", d, got)
		}
	}
	if took := time.Since(began); took > 4*time.Second {
		t.Errorf("R1: it took %v", took)
	}
	names := make([]string, 1<<16)
	wide := unit(class("A", "", names...))
	if len(table.Faces(wide, 0)) != 0 || table.Is(wide, "A", "") {
		t.Error("R1: faces of no name")
	}
}
