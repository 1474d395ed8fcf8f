package rules_test

import (
	"math"
	"slices"
	"strconv"
	"testing"

	"governor/api"
	"governor/rules"
	"governor/syntax"
)

// sound is a unit that has all kinds of declarations, and nothing wrong in it: what is at its limits is so by hand, below.
const sound = "INTERFACE I ; METHOD get ( ) : INT ; METHOD put ( v : INT , w : BOOL ) ; END_INTERFACE " +
	"INTERFACE J ; METHOD bare ( ) : BOOL ; END_INTERFACE " +
	"CLASS ABSTRACT A IMPLEMENTS I ; VAR n : INT := 3 ; VAR s : REF_TO S ; METHOD get ( ) : INT ; RETURN n ; END_METHOD " +
	"METHOD put ( v : INT , w : BOOL ) ; n := v ; END_METHOD METHOD ABSTRACT bare ( ) : BOOL ; END_METHOD END_CLASS " +
	"CLASS B EXTENDS A IMPLEMENTS J ; VAR k : INT ( 1 .. 5 ) := 2 ; VAR l : ARRAY [ 3 ] OF INT ; VAR b : BOOL := 1 ; " +
	"METHOD OVERRIDE bare ( ) : BOOL ; VAR x : INT ; RETURN b ; END_METHOD METHOD OVERRIDE get ( ) : INT ; RETURN SUPER . get ( ) ; END_METHOD " +
	"METHOD FINAL last ( r : REF_TO I ) ; END_METHOD END_CLASS " +
	"CLASS FINAL C EXTENDS B ; METHOD OVERRIDE get ( ) : INT ; RETURN 1 ; END_METHOD METHOD own ( ) ; END_METHOD END_CLASS " +
	"PROGRAM P ; VAR i : INT AT IN 0 ; VAR o : INT AT OUT 0 ; VAR q : BOOL AT OUT 1 ; VAR c : C ; VAR t : TON ; VAR n : INT ; o := i + c . get ( ) ; END_PROGRAM " +
	"PROGRAM Q ; VAR i : INT AT IN 0 ; VAR o : INT AT OUT 2 ; VAR r : REF_TO J ; VAR n : INT ; o := i ; END_PROGRAM " +
	"TASK T ( INTERVAL 1 , PRIORITY 0 ) : P ; TASK U ( INTERVAL 100 , PRIORITY 9 ) : Q ; CLASS S ; END_CLASS"

// The numbers of its declarations.
const (
	faceI    = 0
	faceJ    = 1
	classA   = 2
	classB   = 3
	classC   = 4
	programP = 5
	programQ = 6
	taskT    = 7
	taskU    = 8
	classS   = 9
)

// read is the unit of a source.
func read(t *testing.T, src string) api.Unit {
	t.Helper()
	u, _, err := syntax.Parse(src)
	if err != nil {
		t.Fatalf("%q: %v", src, err)
	}
	return u
}

// change makes something else of a unit's declarations.
type change func(d []api.Decl)

// changed is the sound unit, with changes.
func changed(t *testing.T, changes ...change) api.Unit {
	t.Helper()
	u := read(t, sound)
	for _, do := range changes {
		do(u.Decls)
	}
	return u
}

// vars are n variables that no others have the names of.
func vars(n int) []api.Var {
	var list []api.Var
	for i := range n {
		list = append(list, api.Var{Name: "var" + strconv.Itoa(i), Type: api.Type{Kind: api.Int}})
	}
	return list
}

// methods are n methods that no others have the names of.
func methods(n int) []api.Method {
	var list []api.Method
	for i := range n {
		list = append(list, api.Method{Name: "method" + strconv.Itoa(i)})
	}
	return list
}

// filled are n of a list, of which some are there already.
func filled[T any](list []T, all []T, n int) []T {
	return append(list, all[:n-len(list)]...)
}

// oddDecl tells that a unit's declaration has another code than it must have.
func oddDecl(t *testing.T, u api.Unit, d int, want int, what string) {
	t.Helper()
	if got := rules.Decl(u, d); got != want {
		t.Errorf("P8.2: %s: %d, not %d", what, got, want)
	}
}

func TestSound(t *testing.T) {
	u := changed(t)
	for d := range u.Decls {
		oddDecl(t, u, d, api.Fine, u.Decls[d].Name)
	}
	if got := rules.Unit(u); len(got) > 0 {
		t.Errorf("P8.3: what is sound is %v", got)
	}
}

// TestNone asks of declarations that are not there, or of no kind: that is told ahead of all.
func TestNone(t *testing.T) {
	u := changed(t)
	for _, unit := range []api.Unit{u, {}} {
		for _, d := range []int{-1, -2, len(unit.Decls), len(unit.Decls) + 1, 1 << 32, -1 << 32, math.MaxInt, math.MinInt} {
			oddDecl(t, unit, d, api.Arg, "number "+strconv.Itoa(d))
		}
	}
	for _, kind := range []int{0, -1, 5, 6, 1 << 32, math.MaxInt, math.MinInt} {
		for d := range u.Decls {
			odd := changed(t, func(l []api.Decl) { l[d].Kind = kind })
			oddDecl(t, odd, d, api.Arg, "kind "+strconv.Itoa(kind))
			odd.Decls[d].Vars, odd.Decls[d].Name = vars(9), odd.Decls[0].Name
			oddDecl(t, odd, d, api.Arg, "kind "+strconv.Itoa(kind)+" of a great one")
		}
	}
	for range api.MaxDecls {
		u.Decls = append(u.Decls, api.Decl{})
	}
	oddDecl(t, u, api.MaxDecls+1, api.Arg, "no kind behind as many as may be")
}

// TestSize has each number at its limit, and one past it.
func TestSize(t *testing.T) {
	u := changed(t)
	for i := len(u.Decls); i <= api.MaxDecls+1; i++ {
		u.Decls = append(u.Decls, api.Decl{Kind: api.Interface, Name: "I" + strconv.Itoa(i)})
		want := api.Fine
		if i >= api.MaxDecls {
			want = api.Size
		}
		oddDecl(t, u, i, want, "number "+strconv.Itoa(i))
	}
	for _, d := range []int{faceI, classB, programP, taskT} {
		for past := range 3 {
			want := api.Fine
			if past > 0 {
				want = api.Size
			}
			for what, do := range map[string]change{
				"methods":   func(l []api.Decl) { l[d].Methods = filled(l[d].Methods, methods(9), api.MaxMethods+past) },
				"variables": func(l []api.Decl) { l[d].Vars = filled(l[d].Vars, vars(10), api.MaxVars+past) },
				"parameters": func(l []api.Decl) {
					l[d].Methods = append(l[d].Methods, api.Method{Name: "more", Params: vars(api.MaxParams + past)})
				},
				"a method's variables": func(l []api.Decl) {
					l[d].Methods = append(l[d].Methods, api.Method{Name: "more", Vars: vars(api.MaxVars + past)})
				},
			} {
				oddDecl(t, changed(t, do), d, want, what+" of "+u.Decls[d].Name)
			}
		}
	}
	for _, d := range []int{faceI, programP, taskT} {
		names := []string{"", "", "", "", ""}
		oddDecl(t, changed(t, func(l []api.Decl) { l[d].Faces = names[:4] }), d, api.Fine, "names in no class")
		oddDecl(t, changed(t, func(l []api.Decl) { l[d].Faces = names }), d, api.Size, "too many names in no class")
	}
	u = read(t, "INTERFACE I ; END_INTERFACE INTERFACE J ; END_INTERFACE INTERFACE K ; END_INTERFACE INTERFACE L ; END_INTERFACE INTERFACE M ; END_INTERFACE CLASS A IMPLEMENTS I , J , K , L ; END_CLASS")
	oddDecl(t, u, 5, api.Fine, "four interfaces")
	u.Decls[5].Faces = append(u.Decls[5].Faces, "M")
	oddDecl(t, u, 5, api.Size, "five interfaces")
}

// TestSizeOfEach has the last method be the one that is too great, and nothing else asked for its size.
func TestSizeOfEach(t *testing.T) {
	for i := range 3 {
		great := func(l []api.Decl) { l[classB].Methods[i].Params = vars(api.MaxParams + 1) }
		oddDecl(t, changed(t, great), classB, api.Size, "parameters of method "+strconv.Itoa(i))
	}
	long := func(l []api.Decl) {
		for range api.MaxStmts + 1 {
			l[programP].Body = append(l[programP].Body, l[programP].Body[0])
		}
	}
	oddDecl(t, changed(t, long), programP, api.Fine, "a long body")
}

// TestTwice gives each declaration the name of each other.
func TestTwice(t *testing.T) {
	u := changed(t)
	for d := range u.Decls {
		for other := range u.Decls {
			renamed := changed(t, func(l []api.Decl) { l[d].Name = l[other].Name })
			if got := rules.Decl(renamed, d); (got == api.Twice) != (other < d) {
				t.Errorf("P8.2: declaration %d of the name of %d is %d", d, other, got)
			}
		}
		// What is no declaration's name is none.
		fresh := changed(t, func(l []api.Decl) { l[d].Name = "get" })
		oddDecl(t, fresh, d, api.Fine, "a method's name")
	}
	nameless := api.Unit{Decls: []api.Decl{{Kind: api.Class}, {Kind: api.Interface}, {Kind: 9, Name: "x"}, {Kind: api.Program, Name: "x"}, {Kind: api.Program, Name: "X"}}}
	for d, want := range []int{api.Fine, api.Twice, api.Arg, api.Twice, api.Fine} {
		oddDecl(t, nameless, d, want, "nameless "+strconv.Itoa(d))
	}
}

// TestUnit tells each declaration's code, in order.
func TestUnit(t *testing.T) {
	u := changed(t, func(l []api.Decl) {
		l[faceJ].Methods[0].Result.Kind = api.Ref
		l[classB].Vars[0].Init = 6
		l[classC].Kind = 7
		l[programP].Body[0].Name = "none"
		l[programQ].Vars[1].Slot = 0
		l[taskU].Every = 0
	})
	u.Decls = append(u.Decls, api.Decl{Kind: api.Interface, Name: "S"}, api.Decl{Kind: api.Class, Name: "V", Final: true, Abstract: true}, api.Decl{Kind: api.Class, Name: "W"}, api.Decl{})
	want := []api.Wrong{{Code: api.Kind, At: faceJ}, {Code: api.Face, At: classB}, {Code: api.Arg, At: classC}, {Code: api.Kind, At: programP}, {Code: api.Slot, At: programQ}, {Code: api.Task, At: taskU},
		{Code: api.Twice, At: 10}, {Code: api.Abstract, At: 11}, {Code: api.Size, At: 12}, {Code: api.Arg, At: 13}}
	// What B answers its interface with does not matter: its start is told first.
	want[1].Code = api.Init
	if got := rules.Unit(u); !slices.Equal(got, want) {
		t.Errorf("P8.3: Unit is %v, not %v", got, want)
	}
	if got := rules.Unit(api.Unit{}); len(got) > 0 {
		t.Errorf("P8.3: Unit of none is %v", got)
	}
	if got := rules.Unit(read(t, "TASK T ( INTERVAL 1 , PRIORITY 0 ) : P ;")); !slices.Equal(got, []api.Wrong{{Code: api.Task}}) {
		t.Errorf("P8.3: Unit of a task without its program is %v", got)
	}
}

// step is a change that breaks one rule, and no rule that is asked ahead of it.
type step struct {
	code int
	what string
	do   func(d *api.Decl)
}

// steps are, of a declaration of the sound unit, one for each of its rules, in the order in which the chapter asks.
func steps() map[int][]step {
	size := step{api.Size, "size", func(d *api.Decl) { d.Vars = filled(d.Vars, vars(9), 9) }}
	twice := step{api.Twice, "name", func(d *api.Decl) { d.Name = "I" }}
	return map[int][]step{
		faceJ: {size, twice,
			{api.Kind, "type", func(d *api.Decl) { d.Methods[0].Result.Kind = api.Array }},
			{api.Twice, "methods", func(d *api.Decl) { d.Methods = append(d.Methods, api.Method{Name: "bare"}) }},
		},
		classB: {size, twice,
			{api.Base, "base", func(d *api.Decl) { d.Base = "Z" }},
			{api.Face, "faces", func(d *api.Decl) { d.Faces = append(d.Faces, "P") }},
			{api.Kind, "type", func(d *api.Decl) { d.Vars[1].Type = api.Type{Kind: api.Inst, Name: "S"} }},
			{api.Init, "start", func(d *api.Decl) { d.Vars[0].Init = 9 }},
			{api.Twice, "fields", func(d *api.Decl) { d.Vars[2].Name = "k" }},
			{api.Abstract, "abstract", func(d *api.Decl) { d.Methods[2].Abstract = true }},
			{api.Over, "override", func(d *api.Decl) { d.Methods[1].Over = false }},
			{api.Face, "interface", func(d *api.Decl) { d.Faces = append(d.Faces, "K") }},
			{api.Typing, "body", func(d *api.Decl) { d.Methods[1].Body = []api.Stmt{{}} }},
		},
		programQ: {size, twice,
			{api.Kind, "type", func(d *api.Decl) { d.Vars[2].Type.Kind = api.None }},
			{api.Init, "start", func(d *api.Decl) { d.Vars[0].Init = 1 << 15 }},
			{api.Slot, "slot", func(d *api.Decl) { d.Vars[1].Slot = 1 }},
			{api.Twice, "variables", func(d *api.Decl) { d.Vars[3].Name = "i" }},
			{api.Unknown, "body", func(d *api.Decl) { d.Body[0].Name = "none" }},
		},
		taskU: {size, twice,
			{api.Task, "program", func(d *api.Decl) { d.Base = "A" }},
			{api.Task, "interval", func(d *api.Decl) { d.Every = 101 }},
			{api.Task, "priority", func(d *api.Decl) { d.First = -1 }},
		},
	}
}

// TestFirst breaks each rule, and each with each other: the one that the chapter names first is told.
func TestFirst(t *testing.T) {
	interfaceK := func(l []api.Decl) { l[classS] = read(t, "INTERFACE K ; METHOD lacking ( ) ; END_INTERFACE").Decls[0] }
	for d, list := range steps() {
		for i, one := range list {
			for _, other := range list[i:] {
				u := changed(t, interfaceK, func(l []api.Decl) { l[classA].Vars = l[classA].Vars[:1] })
				oddDecl(t, u, d, api.Fine, "nothing broken")
				one.do(&u.Decls[d])
				if other.what != one.what {
					other.do(&u.Decls[d])
				}
				oddDecl(t, u, d, one.code, u.Decls[d].Name+": "+one.what+" and "+other.what)
			}
		}
	}
}
