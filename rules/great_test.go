package rules_test

import (
	"reflect"
	"slices"
	"strconv"
	"sync"
	"testing"
	"time"

	"governor/api"
	"governor/rules"
)

// roomy is the sound unit, whose lists all have spare room, with something in it.
func roomy(t *testing.T) api.Unit {
	u := changed(t)
	spare := api.Var{Name: "n", Type: api.Type{Kind: 9}, Init: 9, Dir: 9}
	u.Decls = append(u.Decls, api.Decl{Kind: 9})[:len(u.Decls)]
	for i := range u.Decls {
		d := &u.Decls[i]
		d.Vars = append(d.Vars, spare)[:len(d.Vars)]
		d.Faces = append(d.Faces, "Z")[:len(d.Faces)]
		d.Methods = append(d.Methods, api.Method{Name: "get", Over: true})[:len(d.Methods)]
		d.Body = append(d.Body, api.Stmt{})[:len(d.Body)]
		for j := range d.Methods {
			m := &d.Methods[j]
			m.Params = append(m.Params, spare)[:len(m.Params)]
			m.Vars = append(m.Vars, spare)[:len(m.Vars)]
			m.Body = append(m.Body, api.Stmt{})[:len(m.Body)]
		}
	}
	return u
}

// full is a unit with what stands in its lists' spare room.
func full(u api.Unit) api.Unit {
	decls := slices.Clone(u.Decls[:len(u.Decls)+1])
	for i := range u.Decls {
		d := &decls[i]
		d.Vars, d.Faces, d.Body = d.Vars[:len(d.Vars)+1], d.Faces[:len(d.Faces)+1], d.Body[:len(d.Body)+1]
		d.Methods = slices.Clone(d.Methods[:len(d.Methods)+1])
		for j := range u.Decls[i].Methods {
			m := &d.Methods[j]
			m.Params, m.Vars, m.Body = m.Params[:len(m.Params)+1], m.Vars[:len(m.Vars)+1], m.Body[:len(m.Body)+1]
		}
	}
	return api.Unit{Decls: decls}
}

// TestNothingIsShared writes into all that is answered, and its spare room, and asks again.
func TestNothingIsShared(t *testing.T) {
	u := roomy(t)
	for d := range u.Decls {
		if got := rules.Decl(u, d); got != api.Fine {
			t.Errorf("R4: %s is %d beside spare room", u.Decls[d].Name, got)
		}
	}
	u.Decls[taskT].Every, u.Decls[classC].Name = 0, "A"
	want := []api.Wrong{{Code: api.Twice, At: classC}, {Code: api.Kind, At: programP}, {Code: api.Task, At: taskT}}
	for range 2 {
		got := rules.Unit(u)
		if !slices.Equal(got, want) {
			t.Errorf("R4: %v, not %v", got, want)
		}
		got = got[:cap(got)]
		for i := range got {
			got[i] = api.Wrong{Code: -7, At: -7}
		}
	}
	again := roomy(t)
	again.Decls[taskT].Every, again.Decls[classC].Name = 0, "A"
	if !reflect.DeepEqual(full(u), full(again)) {
		t.Error("R4: what is handed in is changed")
	}
}

// TestAtOneTime has like answers in several goroutines.
func TestAtOneTime(t *testing.T) {
	u := roomy(t)
	u.Decls[taskU].First = 10
	var all sync.WaitGroup
	for range 8 {
		all.Go(func() {
			for range 100 {
				if got := rules.Unit(u); !slices.Equal(got, []api.Wrong{{Code: api.Task, At: taskU}}) || rules.Decl(u, classB) != api.Fine {
					t.Errorf("R5: another answer: %v", got)
				}
			}
		})
	}
	all.Wait()
}

// ends asks all of a unit, within a time that grows as its size does.
func ends(t *testing.T, what string, u api.Unit, want ...api.Wrong) {
	t.Helper()
	began := time.Now()
	if got := rules.Unit(u); !slices.Equal(got, want) {
		t.Errorf("P8.3: %s: %v, not %v", what, got[:min(len(got), 20)], want[:min(len(want), 20)])
	}
	if took := time.Since(began); took > 4*time.Second {
		t.Errorf("R1: %s took %v", what, took)
	}
}

func numbered(letter string, i int) string { return letter + strconv.Itoa(1000000+i) }

// TestManyMembers has so many of each as a unit may have in all, within one declaration, where others ask for them.
func TestManyMembers(t *testing.T) {
	const n = 1 << 15
	var list []api.Method
	var fields []api.Var
	for i := range n {
		list = append(list, api.Method{Name: numbered("m", i)})
		fields = append(fields, api.Var{Name: numbered("f", i), Type: api.Type{Kind: api.Int}, Dir: 2, Slot: 9 + i})
	}
	base := api.Decl{Kind: api.Class, Name: "A", Methods: list, Vars: fields}
	face := api.Decl{Kind: api.Interface, Name: "I", Methods: list}
	decls := []api.Decl{base, face}
	for i := range 6 {
		own := []api.Method{{Name: "own" + strconv.Itoa(i)}}
		decls = append(decls, api.Decl{Kind: api.Class, Name: "B" + strconv.Itoa(i), Base: "A", Faces: []string{"I"}, Methods: own})
	}
	size := []api.Wrong{{Code: api.Size}, {Code: api.Size, At: 1}}
	ends(t, "many members", api.Unit{Decls: decls}, size...)
	decls[7].Methods[0] = api.Method{Name: numbered("m", n-1)}
	ends(t, "many members, the last one again", api.Unit{Decls: decls}, append(size, api.Wrong{Code: api.Over, At: 7})...)
	decls[0].Kind, decls[7] = api.Program, api.Decl{Kind: api.Program, Name: "P", Vars: []api.Var{{Name: "v", Type: api.Type{Kind: api.Int}, Dir: 2}}}
	ends(t, "many variables", api.Unit{Decls: decls}, append(size, api.Wrong{Code: api.Base, At: 2}, api.Wrong{Code: api.Base, At: 3}, api.Wrong{Code: api.Base, At: 4}, api.Wrong{Code: api.Base, At: 5}, api.Wrong{Code: api.Base, At: 6})...)
}

// TestManyDecls has as many declarations as there may be: all but a few classes have their base behind them, and so
// the few that extend the first one go along all of them.
func TestManyDecls(t *testing.T) {
	const n = 1 << 15
	var u api.Unit
	var want []api.Wrong
	for i := range n {
		d := api.Decl{Kind: api.Class, Name: numbered("C", i), Base: numbered("C", i+1), Faces: []string{numbered("I", i)}}
		d.Methods, d.Vars = []api.Method{{Name: numbered("m", i)}}, []api.Var{{Name: numbered("v", i), Type: api.Type{Kind: api.Int}}}
		if i > 0 && i < api.MaxDecls {
			d.Base = numbered("C", 0)
		} else {
			want = append(want, api.Wrong{Code: api.Size, At: i})
		}
		u.Decls = append(u.Decls, d)
	}
	u.Decls[0].Base, want[0].Code = numbered("C", 99), api.Base
	for i := range n {
		u.Decls = append(u.Decls, api.Decl{Kind: api.Interface, Name: numbered("I", i), Methods: []api.Method{{Name: numbered("m", i)}}})
		want = append(want, api.Wrong{Code: api.Size, At: n + i})
	}
	ends(t, "many declarations", u, want...)
	want = nil
	for i := range u.Decls {
		u.Decls[i].Kind, want = 0, append(want, api.Wrong{Code: api.Arg, At: i})
	}
	ends(t, "many declarations of no kind", u, want...)
}

// TestDeep has bodies that are nested as deep as may be.
func TestDeep(t *testing.T) {
	e := api.Expr{Kind: api.True}
	for range 900 {
		e = api.Expr{Kind: api.Not, Args: []api.Expr{e}}
	}
	l := []api.Stmt{{Kind: api.Assign, Name: "f", Exprs: []api.Expr{e}}}
	for range 900 {
		l = []api.Stmt{{Kind: api.While, Exprs: []api.Expr{{Kind: api.True}}, Blocks: [][]api.Stmt{l}}}
	}
	field := []api.Var{{Name: "f", Type: api.Type{Kind: api.Bool}}}
	u := api.Unit{Decls: []api.Decl{{Kind: api.Class, Name: "A", Vars: field, Methods: []api.Method{{Name: "m", Body: l}}}, {Kind: api.Program, Name: "P", Vars: field, Body: l}}}
	ends(t, "deep bodies", u)
	field[0].Type.Kind = api.Int
	ends(t, "wrong deep bodies", u, api.Wrong{Code: api.Typing}, api.Wrong{Code: api.Typing, At: 1})
}
