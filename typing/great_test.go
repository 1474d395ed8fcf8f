package typing_test

import (
	"reflect"
	"slices"
	"strconv"
	"sync"
	"testing"
	"time"

	"governor/api"
	"governor/typing"
)

// roomy is a unit, and statements, whose lists all have spare room, with something in it.
func roomy(t *testing.T) (api.Unit, []api.Stmt) {
	u := whole(t)
	spare := api.Var{Name: "spare", Type: number}
	for i := range u.Decls {
		d := &u.Decls[i]
		d.Vars = append(d.Vars, spare)[:len(d.Vars)]
		for j := range d.Methods {
			m := &d.Methods[j]
			m.Params = append(m.Params, spare)[:len(m.Params)]
			m.Vars = append(m.Vars, spare)[:len(m.Vars)]
		}
	}
	l := stmts(t, "n := b . take ( l [ n ] , r , s ) ; CASE n OF 3 , 1 , 2 : l [ 1 ] := 2 ; ELSE r ?= s ; END_CASE ; WHILE t DO EXIT ; END_WHILE ; STEP k ( t , n ) ;")
	return u, append(l, api.Stmt{Kind: api.Exit})[:len(l)]
}

// full is a unit with what stands in its lists' spare room.
func full(u api.Unit) api.Unit {
	decls := slices.Clone(u.Decls)
	for i := range decls {
		d := &decls[i]
		d.Vars = d.Vars[:len(d.Vars)+1]
		d.Methods = slices.Clone(d.Methods)
		for j := range d.Methods {
			m := &d.Methods[j]
			m.Params, m.Vars = m.Params[:len(m.Params)+1], m.Vars[:len(m.Vars)+1]
		}
	}
	return api.Unit{Decls: decls}
}

// TestNothingIsShared writes into all that is answered, and its spare room, and asks again.
func TestNothingIsShared(t *testing.T) {
	u, l := roomy(t)
	for _, w := range []api.Where{body, get, set, bare, take, part, own, more} {
		got := typing.Visible(u, w)
		want := slices.Clone(got)
		got = got[:cap(got)]
		for i := range got {
			got[i] = api.Var{Name: "written"}
		}
		if !slices.Equal(typing.Visible(u, w), want) {
			t.Errorf("R4: Visible(%v) is another one when it is asked again", w)
		}
	}
	if code := typing.Stmts(u, body, l); code != api.Fine {
		t.Errorf("P7.3: %d", code)
	}
	if again, list := roomy(t); !reflect.DeepEqual(full(u), full(again)) || !reflect.DeepEqual(l[:len(l)+1], list[:len(list)+1]) {
		t.Error("R4: what is handed in is changed")
	}
}

// TestAtOneTime has like answers in several goroutines.
func TestAtOneTime(t *testing.T) {
	u, l := roomy(t)
	e := expr(t, "AS A ( s ) = REF ( b )")
	var all sync.WaitGroup
	for range 8 {
		all.Go(func() {
			for range 100 {
				got, code := typing.Expr(u, body, e)
				if got != truth || code != api.Fine || typing.Stmts(u, body, l) != api.Fine || typing.Stmts(u, take, l) != api.Unknown || len(typing.Visible(u, take)) != 11 || !typing.Fits(u, ref("I"), ref("B")) {
					t.Error("R5: another answer")
				}
			}
		})
	}
	all.Wait()
}

// within fails, if something takes longer than what grows as the sizes do.
func within(t *testing.T, what string, most time.Duration, do func()) {
	t.Helper()
	began := time.Now()
	do()
	if took := time.Since(began); took > most {
		t.Errorf("R1: %s took %v", what, took)
	}
}

// TestDeep has what is nested as deep as may be.
func TestDeep(t *testing.T) {
	u := whole(t)
	for _, last := range []struct {
		e    api.Expr
		code int
	}{{zero(), api.Fine}, {unknown, api.Unknown}} {
		e, called := last.e, last.e
		for range 1000 {
			e = api.Expr{Kind: api.Neg, Args: []api.Expr{e}}
			called = api.Expr{Kind: api.Invoke, N: 1, What: "take", Args: []api.Expr{called, {Kind: api.Null}, {Kind: api.Null}}}
		}
		if _, code := typing.Expr(u, body, e); code != last.code {
			t.Errorf("R1: a deep expression is %d", code)
		}
		if _, code := typing.Expr(u, bare, called); code != last.code {
			t.Errorf("R1: a deep call is %d", code)
		}
		l := []api.Stmt{{Kind: api.Do, Exprs: []api.Expr{{Kind: api.Invoke, Name: "b", What: "part", Args: []api.Expr{{Kind: api.Bin, N: api.Eq, Args: []api.Expr{e, e}}}}}}}
		for range 250 {
			yes := []api.Expr{{Kind: api.True}}
			l = []api.Stmt{{Kind: api.While, Exprs: yes, Blocks: [][]api.Stmt{l}}}
			l = []api.Stmt{{Kind: api.If, Exprs: yes, Blocks: [][]api.Stmt{l, nil}}}
			l = []api.Stmt{{Kind: api.Case, Exprs: []api.Expr{zero()}, Blocks: [][]api.Stmt{l}}}
			l = []api.Stmt{{Kind: api.For, Name: "n", N: 1, Exprs: []api.Expr{zero(), zero()}, Blocks: [][]api.Stmt{l}}}
		}
		if code := typing.Stmts(u, body, l); code != last.code {
			t.Errorf("R1: deep statements are %d", code)
		}
	}
}

func numbered(letter string, i int) string { return letter + strconv.Itoa(1000000+i) }

// TestManyNames assigns each of many variables to the next.
func TestManyNames(t *testing.T) {
	const n = 1 << 14
	p := api.Decl{Kind: api.Program}
	var l []api.Stmt
	alternatives := api.Stmt{Kind: api.Case, Exprs: []api.Expr{zero()}, Blocks: make([][]api.Stmt, n+1)}
	for i := range n {
		p.Vars = append(p.Vars, api.Var{Name: numbered("v", i), Type: number})
		l = append(l, api.Stmt{Kind: api.Assign, Name: numbered("v", n-1-i), Exprs: []api.Expr{{Kind: api.Name, Name: numbered("v", n-1-i/2)}}})
		alternatives.Labels = append(alternatives.Labels, []int{i, -1 - i})
	}
	u := api.Unit{Decls: []api.Decl{p}}
	within(t, "many names", 2*time.Second, func() {
		if code := typing.Stmts(u, api.Where{Method: -1}, append(l, alternatives)); code != api.Fine {
			t.Errorf("P7.3: many names are %d", code)
		}
	})
	alternatives.Labels[n-1] = []int{0}
	if code := typing.Stmts(u, api.Where{Method: -1}, []api.Stmt{alternatives}); code != api.Twice {
		t.Errorf("P7.3: many labels are %d", code)
	}
}

// classes are many, and each extends the next: or, if they stand apart, an interface that each has, alone.
func classes(n int, apart bool) api.Unit {
	var u api.Unit
	for i := range n {
		d := api.Decl{Kind: api.Class, Name: numbered("C", i), Methods: []api.Method{{Name: numbered("m", i), Result: number}}}
		if d.Base = numbered("C", i+1); apart {
			d.Base, d.Faces = "I", []string{"I"}
		}
		u.Decls = append(u.Decls, d)
	}
	return api.Unit{Decls: append(u.Decls, api.Decl{Kind: api.Interface, Name: "I", Methods: []api.Method{{Name: "m"}}})}
}

// TestManyClasses asks of many classes, and each of them.
func TestManyClasses(t *testing.T) {
	const n = 1 << 12
	for _, apart := range []bool{false, true} {
		u := classes(n, apart)
		p := api.Decl{Kind: api.Program, Name: "P", Vars: []api.Var{{Name: "i", Type: ref("I")}, {Name: "last", Type: ref(numbered("C", n-1))}, {Name: "n", Type: number}}}
		var l []api.Stmt
		for i := range n {
			name, to := numbered("r", i), "last"
			p.Vars = append(p.Vars, api.Var{Name: name, Type: ref(numbered("C", i))})
			if apart {
				to = "i"
			}
			l = append(l,
				api.Stmt{Kind: api.Assign, Name: to, Exprs: []api.Expr{{Kind: api.Name, Name: name}}},
				api.Stmt{Kind: api.Assign, Name: "n", Exprs: []api.Expr{{Kind: api.Invoke, Name: name, What: numbered("m", i)}}},
				api.Stmt{Kind: api.Attempt, Name: "i", Exprs: []api.Expr{{Kind: api.As, Name: numbered("C", i), Args: []api.Expr{{Kind: api.Null}}}}})
		}
		u.Decls = append(u.Decls, p)
		w := api.Where{Decl: n + 1, Method: -1}
		within(t, "many classes", 4*time.Second, func() {
			if code := typing.Stmts(u, w, l); code != api.Fine {
				t.Errorf("P7.3: many classes are %d", code)
			}
		})
		wrong := api.Stmt{Kind: api.Assign, Name: numbered("r", 0), Exprs: []api.Expr{{Kind: api.Name, Name: "last"}}}
		if code := typing.Stmts(u, w, append(l, wrong)); code != api.Typing {
			t.Errorf("P7.3: the last of many classes is %d", code)
		}
	}
	u := classes(n, false)
	e := api.Expr{Kind: api.Invoke, N: 2, What: numbered("m", n-1)}
	for range 10 {
		e = api.Expr{Kind: api.Bin, N: api.Add, Args: []api.Expr{e, e}}
	}
	within(t, "many calls of SUPER", 4*time.Second, func() {
		if got, code := typing.Expr(u, api.Where{}, e); got != number || code != api.Fine {
			t.Errorf("P7.2: many calls of SUPER are %v, %d", got, code)
		}
	})
}
