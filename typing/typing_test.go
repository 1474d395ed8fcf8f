package typing_test

import (
	"math"
	"slices"
	"testing"

	"governor/api"
	"governor/syntax"
	"governor/typing"
)

// world has two interfaces, classes that extend one another, a class alone, and a program; names that stand there
// twice are of another type each time.
const world = "INTERFACE I ; METHOD get ( ) : INT ; METHOD set ( v : INT , w : BOOL ) ; END_INTERFACE " +
	"INTERFACE J ; METHOD none ( ) ; END_INTERFACE " +
	"CLASS ABSTRACT A IMPLEMENTS I ; VAR f : INT ; VAR g : BOOL ; VAR twice : BOOL ; " +
	"METHOD get ( ) : INT ; RETURN f ; END_METHOD METHOD set ( v : INT , w : BOOL ) ; END_METHOD " +
	"METHOD ABSTRACT bare ( ) : BOOL ; END_METHOD METHOD only ( r : REF_TO A ) : BOOL ; END_METHOD END_CLASS " +
	"CLASS B EXTENDS A IMPLEMENTS J ; VAR h : INT ( 1 .. 5 ) ; VAR l : ARRAY [ 3 ] OF INT ; VAR e : REF_TO I ; " +
	"METHOD OVERRIDE bare ( ) : BOOL ; END_METHOD METHOD none ( ) ; END_METHOD " +
	"METHOD take ( x : INT , twice : REF_TO A , z : REF_TO I ) : INT ; VAR f : BOOL ; VAR loc : BOOL ; END_METHOD " +
	"METHOD part ( x : BOOL ) ; VAR x : INT ; END_METHOD END_CLASS " +
	"CLASS C ; METHOD own ( ) : BOOL ; END_METHOD METHOD more ( ) ; END_METHOD END_CLASS " +
	"PROGRAM P ; VAR n : INT ; END_PROGRAM TASK T ( INTERVAL 1 , PRIORITY 0 ) : P ;"

// Further variables of its program, more than one source may have.
const (
	numbers    = "VAR i : INT AT IN 0 ; VAR o : INT AT OUT 0 ; VAR t : BOOL ; VAR u : BOOL AT IN 1 ; VAR p : INT ( 1 .. 5 ) ; VAR l : ARRAY [ 3 ] OF INT ; "
	references = "VAR r : REF_TO A ; VAR s : REF_TO I ; VAR d : REF_TO B ; VAR j : REF_TO J ; VAR q : REF_TO X ; VAR y : REF_TO P ; "
	objects    = "VAR b : B ; VAR c : C ; VAR v : X ; VAR m : P ; VAR k : TON ; VAR n : BOOL ; "
)

// whole is the unit of world, with all variables.
func whole(t *testing.T) api.Unit {
	t.Helper()
	u := read(t, world)
	for _, vars := range []string{numbers, references, objects} {
		u.Decls[5].Vars = append(u.Decls[5].Vars, read(t, "PROGRAM P ; "+vars+"END_PROGRAM").Decls[0].Vars...)
	}
	return u
}

// The places of world.
var (
	body = api.Where{Decl: 5, Method: -1}
	get  = api.Where{Decl: 2, Method: 0}
	set  = api.Where{Decl: 2, Method: 1}
	bare = api.Where{Decl: 3, Method: 0}
	take = api.Where{Decl: 3, Method: 2}
	part = api.Where{Decl: 3, Method: 3}
	own  = api.Where{Decl: 4, Method: 0}
	more = api.Where{Decl: 4, Method: 1}
)

// read is the unit of a source.
func read(t *testing.T, src string) api.Unit {
	t.Helper()
	u, _, err := syntax.Parse(src)
	if err != nil {
		t.Fatalf("%q: %v", src, err)
	}
	return u
}

// expr is the expression of a source.
func expr(t *testing.T, src string) api.Expr {
	t.Helper()
	e, err := syntax.Expr(src)
	if err != nil {
		t.Fatalf("%q: %v", src, err)
	}
	return e
}

// stmts are the statements of a source.
func stmts(t *testing.T, src string) []api.Stmt {
	t.Helper()
	return read(t, "PROGRAM X ; "+src+" END_PROGRAM").Decls[0].Body
}

// Types that expressions have.
var (
	number = api.Type{Kind: api.Int}
	truth  = api.Type{Kind: api.Bool}
	null   = api.Type{Kind: api.Ref}
)

func ref(name string) api.Type { return api.Type{Kind: api.Ref, Name: name} }

// noPlaces are neither a method of a class nor a program's body, in any unit of at most 1000 declarations.
func noPlaces(u api.Unit) []api.Where {
	far := []int{-1, -2, 1000, 1 << 32, -1 << 32, math.MaxInt, math.MinInt}
	places := []api.Where{}
	for _, d := range far {
		for _, m := range append(far, 0) {
			places = append(places, api.Where{Decl: d, Method: m})
		}
	}
	for d, decl := range u.Decls {
		if decl.Kind != api.Program {
			places = append(places, api.Where{Decl: d, Method: -1})
		}
		if decl.Kind != api.Class {
			places = append(places, api.Where{Decl: d, Method: 0})
		}
		places = append(places, api.Where{Decl: d, Method: len(decl.Methods)})
		for _, m := range far[1:] {
			places = append(places, api.Where{Decl: d, Method: m})
		}
	}
	return places
}

// manyKinds has a declaration of each kind, and of kinds that are none, all with a variable, a method and a body.
func manyKinds() api.Unit {
	var u api.Unit
	for _, kind := range []int{api.Interface, api.Class, api.Program, api.TaskOf, 0, 5, -1, math.MaxInt, math.MinInt} {
		d := api.Decl{Kind: kind, Name: "D", Vars: []api.Var{{Name: "x", Type: number}}}
		d.Methods = []api.Method{{Name: "m", Params: []api.Var{{Name: "p", Type: number}}, Vars: []api.Var{{Name: "v", Type: truth}}}}
		u.Decls = append(u.Decls, d)
	}
	return u
}

func TestVisible(t *testing.T) {
	u := whole(t)
	a, b, p := u.Decls[2], u.Decls[3], u.Decls[5]
	for _, x := range []struct {
		w    api.Where
		want []api.Var
	}{
		{body, p.Vars},
		{get, a.Vars},
		{set, slices.Concat(a.Methods[1].Params, a.Vars)},
		{bare, slices.Concat(a.Vars, b.Vars)},
		{take, slices.Concat(b.Methods[2].Params, b.Methods[2].Vars, a.Vars, b.Vars)},
		{part, slices.Concat(b.Methods[3].Params, b.Methods[3].Vars, a.Vars, b.Vars)},
		{own, nil},
	} {
		if got := typing.Visible(u, x.w); !slices.Equal(got, x.want) {
			t.Errorf("P7.1: Visible(%v) is %v, not %v", x.w, got, x.want)
		}
	}
	for _, unit := range []api.Unit{u, manyKinds(), {}} {
		for _, w := range noPlaces(unit) {
			if got := typing.Visible(unit, w); len(got) > 0 {
				t.Errorf("P7.1: Visible(%v) of no place is %v", w, got)
			}
		}
	}
	// A program's own Base is not gone along; a ring of classes ends.
	u.Decls[5].Base, u.Decls[2].Base = "A", "B"
	if got := typing.Visible(u, body); !slices.Equal(got, p.Vars) {
		t.Errorf("P7.1: Visible of a program with a base is %v", got)
	}
	if got := typing.Visible(u, bare); !slices.Equal(got, slices.Concat(a.Vars, b.Vars)) {
		t.Errorf("P7.1: Visible in a ring is %v", got)
	}
}

// TestFirstOfAName asks for the type of what a name stands for, where more than one has it.
func TestFirstOfAName(t *testing.T) {
	u := whole(t)
	for _, x := range []struct {
		w    api.Where
		name string
		want api.Type
	}{
		{body, "n", number}, {get, "f", number}, {get, "twice", truth},
		{take, "x", number}, {take, "twice", ref("A")}, {take, "f", truth}, {take, "g", truth}, {take, "h", number}, {take, "e", ref("I")}, {take, "loc", truth},
		{part, "x", truth}, {part, "f", number}, {part, "twice", truth},
	} {
		if got, code := typing.Expr(u, x.w, api.Expr{Kind: api.Name, Name: x.name}); got != x.want || code != api.Fine {
			t.Errorf("P7.1: %s at %v is %v, %d, not %v", x.name, x.w, got, code, x.want)
		}
	}
	for _, x := range []struct {
		w    api.Where
		name string
	}{{body, "f"}, {body, "B"}, {body, ""}, {get, "h"}, {get, "v"}, {get, "n"}, {take, "n"}, {take, "get"}, {part, "loc"}, {own, "f"}} {
		if got, code := typing.Expr(u, x.w, api.Expr{Kind: api.Name, Name: x.name}); got != (api.Type{}) || code != api.Unknown {
			t.Errorf("P7.2: %s at %v is %v, %d", x.name, x.w, got, code)
		}
	}
	named := api.Unit{Decls: []api.Decl{{Kind: api.Program, Vars: []api.Var{{Type: truth}}}}}
	if got, code := typing.Expr(named, api.Where{Method: -1}, api.Expr{Kind: api.Name}); got != truth || code != api.Fine {
		t.Errorf("P7.1: an empty name is %v, %d", got, code)
	}
}

func TestFits(t *testing.T) {
	u := whole(t)
	types := []api.Type{{}, number, truth, {Kind: api.Range, Lo: 1, Hi: 5}, {Kind: api.Array, Hi: 3}, null, ref("A"), ref("B"), ref("C"), ref("I"), ref("J"), ref("X"), ref("P"),
		{Kind: api.Inst, Name: "A"}, {Kind: api.Timer, Lo: api.TON}, {Kind: 8}, {Kind: -1}, {Kind: math.MaxInt}, {Kind: math.MinInt}}
	fine := map[api.Type][]api.Type{
		number: {number}, types[3]: {number}, truth: {truth}, null: {null},
		ref("A"): {null, ref("A"), ref("B")}, ref("B"): {null, ref("B")}, ref("C"): {null, ref("C")},
		ref("I"): {null, ref("I"), ref("A"), ref("B")}, ref("J"): {null, ref("J"), ref("B")},
		// A name of nothing, and of a program, is the same as itself alone.
		ref("X"): {null, ref("X")}, ref("P"): {null, ref("P")},
	}
	for _, to := range types {
		for _, from := range types {
			if got := typing.Fits(u, to, from); got != slices.Contains(fine[to], from) {
				t.Errorf("P7.1: Fits(%v, %v) is %v", to, from, got)
			}
		}
	}
	// What else a type tells does not matter.
	if !typing.Fits(u, api.Type{Kind: api.Int, Lo: 3, Name: "A"}, api.Type{Kind: api.Int, Hi: 9, Name: "B"}) || !typing.Fits(u, api.Type{Kind: api.Ref, Lo: 3, Name: "I"}, api.Type{Kind: api.Ref, Hi: 9, Name: "B"}) {
		t.Error("P7.1: Fits asks for more than kinds and names")
	}
	if !typing.Fits(api.Unit{}, ref("A"), ref("A")) || typing.Fits(api.Unit{}, ref("A"), ref("B")) || !typing.Fits(api.Unit{}, ref("A"), null) || typing.Fits(api.Unit{}, null, ref("A")) {
		t.Error("P7.1: Fits in no unit")
	}
	if nameless := (api.Unit{Decls: []api.Decl{{Kind: api.Class, Name: "A"}, {Kind: api.Class}}}); !typing.Fits(nameless, null, ref("A")) {
		t.Error("P7.1: Fits of a class whose base is one of an empty name")
	}
}

// TestNoPlace asks at places of which each code is Arg, ahead of whatever else is wrong.
func TestNoPlace(t *testing.T) {
	for _, u := range []api.Unit{whole(t), manyKinds(), {}} {
		for _, w := range noPlaces(u) {
			for _, e := range []api.Expr{{Kind: api.Num}, {}, {Kind: api.Name, Name: "x"}, {Kind: api.Neg}, {Kind: api.Invoke, N: 1, What: "m"}} {
				if got, code := typing.Expr(u, w, e); got != (api.Type{}) || code != api.Arg {
					t.Errorf("P7.2: Expr(%v, %v) of no place is %v, %d", w, e, got, code)
				}
			}
			for _, l := range [][]api.Stmt{nil, {}, {{Kind: api.Return}}, {{}}, {{Kind: api.Exit}}} {
				if code := typing.Stmts(u, w, l); code != api.Arg {
					t.Errorf("P7.3: Stmts(%v, %v) of no place is %d", w, l, code)
				}
			}
		}
	}
	u := manyKinds()
	for _, w := range []api.Where{{Decl: 1}, {Decl: 2, Method: -1}} {
		if got, code := typing.Expr(u, w, api.Expr{Kind: api.Name, Name: "x"}); got != number || code != api.Fine {
			t.Errorf("P7.2: Expr(%v) is %v, %d", w, got, code)
		}
		if code := typing.Stmts(u, w, []api.Stmt{{Kind: api.Return}}); code != api.Fine {
			t.Errorf("P7.3: Stmts(%v) is %d", w, code)
		}
	}
}
