package typing_test

import (
	"math"
	"reflect"
	"slices"
	"testing"

	"governor/api"
	"governor/typing"
)

// TestStmts has statements of sources of which nothing is wrong.
func TestStmts(t *testing.T) {
	u := whole(t)
	for _, x := range []struct {
		w    api.Where
		srcs []string
	}{
		{body, []string{
			"", "n := 1 ;", "n := p ;", "p := n ;", "p := 99 ;", "o := i ;", "t := u ;", "t := n = 1 ;",
			"r := NULL ;", "r := d ;", "s := d ;", "s := r ;", "s := REF ( b ) ;", "j := REF ( b ) ;", "q := NULL ;", "q := q ;", "y := y ;", "d := AS B ( s ) ;", "q := REF ( v ) ;",
			"l [ 0 ] := 1 ;", "l [ l [ n ] ] := p ;", "l [ 9 ] := - n ;",
			"r ?= s ;", "d ?= NULL ;", "d ?= r ;", "j ?= q ;", "q ?= REF ( c ) ;",
			"b . get ( ) ;", "b . none ( ) ;", "c . more ( ) ;", "s . set ( 1 , t ) ;", "r . only ( d ) ;", "b . part ( c . own ( ) ) ;",
			"IF t THEN END_IF ;", "IF t THEN n := 1 ; ELSIF n = 1 THEN n := 2 ; ELSE n := 3 ; END_IF ;",
			"CASE n OF END_CASE ;", "CASE p OF ELSE n := 1 ; END_CASE ;", "CASE n + 1 OF 1 : n := 1 ; 2 , 3 : 32767 , 0 , - 32768 : n := 2 ; ELSE n := 3 ; END_CASE ;",
			"WHILE t DO n := 1 ; END_WHILE ;", "WHILE TRUE DO EXIT ; END_WHILE ;",
			"FOR n := 1 TO p BY 1 DO l [ n ] := n ; END_FOR ;", "FOR o := i TO l [ 1 ] BY - 3 DO EXIT ; END_FOR ;",
			"RETURN ;", "STEP k ( t , n ) ;", "STEP k ( DONE ( k ) , COUNT ( k ) ) ;",
			// An EXIT that has a loop around it, near or far.
			"WHILE t DO IF t THEN EXIT ; ELSIF u THEN EXIT ; ELSE EXIT ; END_IF ; END_WHILE ;",
			"FOR n := 1 TO 2 BY 1 DO CASE n OF 1 : EXIT ; 2 : WHILE t DO END_WHILE ; EXIT ; ELSE EXIT ; END_CASE ; EXIT ; END_FOR ;",
		}},
		{get, []string{"RETURN f ;", "RETURN 1 ;", "RETURN THIS . get ( ) ;", "f := 1 ;", "THIS . set ( f , g ) ;", "THIS . bare ( ) ;", ""}},
		{set, []string{"RETURN ;", "f := v ; v := f ;", "IF w THEN RETURN ; END_IF ;", "FOR v := 1 TO 2 BY 1 DO END_FOR ;"}},
		{bare, []string{"RETURN TRUE ;", "RETURN f = h ;", "h := f ;", "e := e ;", "l [ h ] := f ;", "SUPER . set ( 1 , TRUE ) ;"}},
		{take, []string{"f := loc ;", "twice := NULL ;", "z := twice ;", "twice ?= z ;", "RETURN x ;"}},
		{part, []string{"x := TRUE ;", "f := 1 ;", "RETURN ;"}},
	} {
		for _, src := range x.srcs {
			if code := typing.Stmts(u, x.w, stmts(t, src)); code != api.Fine {
				t.Errorf("P7.3: %s at %v is %d", src, x.w, code)
			}
		}
	}
}

// TestWrongStmts has statements of sources, with the code of what is wrong first in them.
func TestWrongStmts(t *testing.T) {
	u := whole(t)
	for _, x := range []struct {
		w    api.Where
		want int
		srcs []string
	}{
		{body, api.Unknown, []string{
			"z := 1 ;", "z [ 0 ] := 1 ;", "z ?= NULL ;", "z . get ( ) ;", "FOR z := 1 TO 2 BY 1 DO END_FOR ;", "STEP z ( t , 1 ) ;",
			"n := z ;", "l [ z ] := 1 ;", "l [ 1 ] := z ;", "r ?= z ;", "b . only ( z ) ;", "IF z THEN END_IF ;", "IF t THEN ELSIF z THEN END_IF ;", "CASE z OF END_CASE ;", "WHILE z DO END_WHILE ;",
			"FOR n := z TO 2 BY 1 DO END_FOR ;", "FOR n := 1 TO z BY 1 DO END_FOR ;", "RETURN z ;", "STEP k ( z , 1 ) ;", "STEP k ( t , z ) ;",
			"IF t THEN z := 1 ; END_IF ;", "IF t THEN ELSIF t THEN z := 1 ; END_IF ;", "IF t THEN ELSE z := 1 ; END_IF ;", "CASE n OF 1 : z := 1 ; END_CASE ;", "CASE n OF 1 : 2 : z := 1 ; END_CASE ;",
			"CASE n OF ELSE z := 1 ; END_CASE ;", "WHILE t DO z := 1 ; END_WHILE ;", "FOR n := 1 TO 2 BY 1 DO z := 1 ; END_FOR ;", "WHILE t DO IF t THEN CASE n OF 1 : z := 1 ; END_CASE ; END_IF ; END_WHILE ;",
			// The first of two that are wrong.
			"z := - TRUE ;", "z [ TRUE ] := TRUE ;", "z ?= 1 ;", "FOR z := TRUE TO 2 BY 0 DO END_FOR ;", "STEP z ( 1 , TRUE ) ;",
			"l [ TRUE ] := z ;", "l [ z ] := - TRUE ;", "FOR n := TRUE TO z BY 1 DO EXIT ; END_FOR ;", "STEP k ( 1 , z ) ;", "o := z ; EXIT ;", "n := 1 ; n := z ; EXIT ;",
			"IF z THEN EXIT ; END_IF ;", "IF t THEN z := 1 ; ELSIF 1 THEN END_IF ;", "IF t THEN ELSIF z THEN ELSE EXIT ; END_IF ;", "IF t THEN ELSIF t THEN z := 1 ; ELSE EXIT ; END_IF ;",
			"CASE z OF 1 , 1 : EXIT ; END_CASE ;", "CASE n OF 1 : z := 1 ; 2 : EXIT ; END_CASE ;", "CASE n OF 1 : z := 1 ; ELSE EXIT ; END_CASE ;", "WHILE z DO i := 1 ; END_WHILE ;", "FOR n := 1 TO z BY 1 DO i := 1 ; END_FOR ;",
		}},
		{body, api.Typing, []string{
			"i := 1 ;", "u := t ;", "n := TRUE ;", "p := TRUE ;", "o := t ;", "t := 1 ;", "r := 1 ;", "n := r ;", "n := NULL ;", "t := NULL ;", "r := s ;", "d := r ;", "j := r ;", "r := REF ( c ) ;", "q := r ;",
			"r := q ;", "l := 1 ;", "l := l ;", "b := 1 ;", "b := NULL ;", "b := REF ( b ) ;", "k := TRUE ;", "v := NULL ;", "n := l ;", "n := c . more ( ) ;", "n := b ;",
			"n [ 0 ] := 1 ;", "r [ 0 ] := 1 ;", "p [ 1 ] := 1 ;", "b [ 1 ] := 1 ;", "l [ TRUE ] := 1 ;", "l [ 1 ] := TRUE ;", "l [ 1 ] := r ;", "l [ r ] := 1 ;", "l [ 1 ] := l ;",
			"n ?= r ;", "t ?= r ;", "b ?= r ;", "l ?= NULL ;", "r ?= 1 ;", "r ?= t ;", "r ?= b ;",
			"n . get ( ) ;", "k . get ( ) ;", "b . only ( c . more ( ) ) ;",
			"IF 1 THEN END_IF ;", "IF NULL THEN END_IF ;", "IF t THEN ELSIF 1 THEN END_IF ;", "IF r THEN END_IF ;", "IF c . more ( ) THEN END_IF ;", "CASE t OF END_CASE ;", "CASE r OF END_CASE ;", "WHILE 1 DO END_WHILE ;", "WHILE NULL DO END_WHILE ;",
			"FOR p := 1 TO 2 BY 1 DO END_FOR ;", "FOR t := 1 TO 2 BY 1 DO END_FOR ;", "FOR l := 1 TO 2 BY 1 DO END_FOR ;", "FOR r := 1 TO 2 BY 1 DO END_FOR ;", "FOR i := 1 TO 2 BY 1 DO END_FOR ;", "FOR u := 1 TO 2 BY 1 DO END_FOR ;",
			"FOR n := 1 TO 2 BY 0 DO END_FOR ;", "FOR n := 1 TO 2 BY - 0 DO END_FOR ;", "FOR n := TRUE TO 2 BY 1 DO END_FOR ;", "FOR n := 1 TO TRUE BY 1 DO END_FOR ;", "FOR n := r TO r BY 1 DO END_FOR ;",
			"RETURN 1 ;", "RETURN TRUE ;", "RETURN NULL ;", "EXIT ;", "STEP n ( t , 1 ) ;", "STEP l ( t , 1 ) ;", "STEP b ( t , 1 ) ;", "STEP k ( 1 , 1 ) ;", "STEP k ( t , t ) ;", "STEP k ( 1 , t ) ;", "STEP k ( t , NULL ) ;",
			// An EXIT whose loop is behind it, or ended ahead of it.
			"IF t THEN EXIT ; END_IF ;", "IF t THEN ELSIF t THEN EXIT ; END_IF ;", "IF t THEN ELSE EXIT ; END_IF ;", "CASE n OF 1 : EXIT ; END_CASE ;", "CASE n OF ELSE EXIT ; END_CASE ;", "WHILE t DO EXIT ; END_WHILE ; EXIT ;",
			"FOR n := 1 TO 2 BY 1 DO EXIT ; END_FOR ; EXIT ;", "IF t THEN WHILE t DO END_WHILE ; EXIT ; END_IF ;", "EXIT ; WHILE t DO END_WHILE ;",
			// The first of two that are wrong.
			"i := z ;", "u := z ;", "n [ z ] := z ;", "n ?= z ;", "t ?= z ;", "FOR i := z TO z BY 1 DO END_FOR ;", "FOR p := z TO z BY 1 DO END_FOR ;", "FOR n := z TO z BY 0 DO END_FOR ;", "STEP n ( z , z ) ;",
			"FOR n := 1 TO TRUE BY 1 DO z := 1 ; END_FOR ;", "FOR n := - TRUE TO z BY 1 DO END_FOR ;", "l [ - TRUE ] := z ;", "STEP k ( - TRUE , z ) ;", "RETURN - TRUE ;", "EXIT ; z := 1 ;", "n := TRUE ; n := z ;",
			"IF 1 THEN z := 1 ; END_IF ;", "IF t THEN EXIT ; ELSIF z THEN END_IF ;", "IF t THEN ELSIF 1 THEN z := 1 ; END_IF ;", "CASE t OF 1 , 1 : z := 1 ; END_CASE ;", "CASE t OF 32768 : END_CASE ;", "CASE n OF 1 : EXIT ; 2 : z := 1 ; END_CASE ;",
			"WHILE 1 DO z := 1 ; END_WHILE ;", "FOR n := 1 TO TRUE BY 1 DO EXIT ; END_FOR ;",
		}},
		{body, api.Call, []string{
			"b . nothing ( ) ;", "THIS . get ( ) ;", "SUPER . get ( ) ;", "b . only ( 1 ) ;", "c . more ( 1 ) ;", "n := b . get ( 1 ) ;", "IF b . nothing ( ) THEN END_IF ;", "r . only ( ) ;", "s . only ( r ) ;", "RETURN b . get ( 1 ) ;",
			"b . nothing ( z ) ; z := 1 ;", "t := b . get ( 1 ) ;", "WHILE b . nothing ( ) DO EXIT ; END_WHILE ;",
		}},
		{body, api.Twice, []string{
			"CASE n OF 1 , 1 : END_CASE ;", "CASE n OF 1 : 1 : END_CASE ;", "CASE n OF 1 , 2 : 3 : 4 , 5 , 2 : END_CASE ;", "CASE n OF 0 , - 0 : END_CASE ;", "CASE n OF - 7 : - 7 : END_CASE ;", "CASE n OF 32768 : END_CASE ;", "CASE n OF 1 : 2 , 32768 : END_CASE ;",
			// Ahead of what is wrong in the blocks.
			"CASE n OF 1 : z := 1 ; 1 : END_CASE ;", "CASE n OF 1 , 1 : EXIT ; END_CASE ;", "CASE n OF 32768 : ELSE EXIT ; END_CASE ;", "CASE n OF 1 : CASE n OF 2 , 2 : END_CASE ; ELSE EXIT ; END_CASE ;",
		}},
		{get, api.Typing, []string{"RETURN ;", "RETURN g ;", "RETURN NULL ;", "IF g THEN RETURN ; END_IF ;", "WHILE g DO RETURN TRUE ; END_WHILE ;", "g := THIS . set ( 1 , g ) ;", "EXIT ;"}},
		{set, api.Typing, []string{"RETURN 1 ;", "RETURN w ;", "RETURN NULL ;", "RETURN THIS . set ( v , w ) ;", "FOR w := 1 TO 2 BY 1 DO END_FOR ;", "w := v ;"}},
		{set, api.Unknown, []string{"RETURN z ;", "n := 1 ;"}},
		{bare, api.Typing, []string{"RETURN 1 ;", "RETURN ;", "RETURN f ;", "FOR h := 1 TO 2 BY 1 DO END_FOR ;"}},
		{bare, api.Call, []string{"SUPER . bare ( ) ;", "SUPER . none ( ) ;", "THIS . set ( 1 ) ;"}},
		{take, api.Typing, []string{"f := 1 ;", "twice := TRUE ;", "twice := z ;", "RETURN f ;"}},
		{part, api.Typing, []string{"x := 1 ;", "f := x ;", "RETURN x ;"}},
	} {
		for _, src := range x.srcs {
			if code := typing.Stmts(u, x.w, stmts(t, src)); code != x.want {
				t.Errorf("P7.3: %s at %v is %d, not %d", src, x.w, code, x.want)
			}
		}
	}
}

// forms are, of each kind, how many Exprs and Blocks there may be, with that many Labels.
func forms(kind, exprs, blocks, labels int) bool {
	count := [3]int{exprs, blocks, labels}
	switch kind {
	case api.Assign, api.Attempt, api.Do:
		return count == [3]int{1, 0, 0}
	case api.Put, api.Step:
		return count == [3]int{2, 0, 0}
	case api.If:
		return count == [3]int{1, 2, 0} || count == [3]int{2, 3, 0} || count == [3]int{3, 4, 0}
	case api.Case:
		return count == [3]int{1, 1, 0} || count == [3]int{1, 2, 1} || count == [3]int{1, 3, 2} || count == [3]int{1, 4, 3}
	case api.While:
		return count == [3]int{1, 1, 0}
	case api.For:
		return count == [3]int{2, 1, 0}
	case api.Return:
		return count == [3]int{1, 0, 0} || count == [3]int{}
	case api.Exit:
		return count == [3]int{}
	}
	return false
}

// codes are, of each kind, what is told of a statement of its form, whose name is nowhere, and all of whose Exprs are.
var codes = map[int]int{api.Do: api.Typing, api.Exit: api.Typing}

// TestFormOfStmts has each kind, and kinds that are none, with all numbers of parts: a wrong one is told ahead of all that is
// wrong in them.
func TestFormOfStmts(t *testing.T) {
	u := whole(t)
	for kind := -1; kind <= 13; kind++ {
		for n := range 5 * 5 * 5 {
			x := api.Stmt{Kind: kind, Name: "nowhere", N: 1}
			for range n % 5 {
				x.Exprs = append(x.Exprs, unknown)
			}
			for range n / 5 % 5 {
				x.Blocks = append(x.Blocks, []api.Stmt{{Kind: api.Assign, Name: "nowhere", Exprs: []api.Expr{zero()}}})
			}
			for i := range n / 25 {
				x.Labels = append(x.Labels, []int{i})
			}
			want := api.Typing
			if forms(kind, len(x.Exprs), len(x.Blocks), len(x.Labels)) {
				want = api.Unknown
				if code, ok := codes[kind]; ok {
					want = code
				} else if kind == api.Return && len(x.Exprs) == 0 {
					want = api.Fine
				}
			}
			if code := typing.Stmts(u, body, []api.Stmt{x}); code != want {
				t.Errorf("P7.3: %v is %d, not %d", x, code, want)
			}
		}
	}
	for _, kind := range []int{math.MaxInt, math.MinInt, 1 << 32} {
		if code := typing.Stmts(u, body, []api.Stmt{{Kind: kind}}); code != api.Typing {
			t.Errorf("P7.3: a statement of kind %d is %d", kind, code)
		}
	}
}

// TestOddStmts has statements that no source makes.
func TestOddStmts(t *testing.T) {
	u := whole(t)
	n := []api.Expr{{Kind: api.Name, Name: "n"}}
	yes := []api.Expr{{Kind: api.True}}
	exit, wrong := []api.Stmt{{Kind: api.Exit}}, []api.Stmt{{Kind: 12}}
	call := api.Expr{Kind: api.Invoke, Name: "b", What: "get"}
	of := func(labels ...[]int) api.Stmt {
		return api.Stmt{Kind: api.Case, Exprs: n, Labels: labels, Blocks: make([][]api.Stmt, len(labels)+1)}
	}
	for _, x := range []struct {
		s    api.Stmt
		want int
	}{
		{of([]int{1}, []int{2}), api.Fine}, {of([]int{api.Lowest, api.Highest}), api.Fine},
		{of([]int{1}, nil), api.Typing}, {of([]int{}, []int{1}), api.Typing}, {of(nil), api.Typing}, {of([]int{1, 1}, nil), api.Typing},
		{of([]int{api.Lowest - 1}), api.Twice}, {of([]int{api.Highest + 1}), api.Twice}, {of([]int{math.MaxInt}), api.Twice}, {of([]int{math.MinInt}), api.Twice}, {of([]int{1 << 32}), api.Twice},
		{of([]int{0, 1, 2, 3, 4, 5, 6, 7, 8, 9, 10}, []int{11}, []int{12, 13}), api.Fine}, {of([]int{0, 1, 2, 3, 4, 5, 6, 7, 8, 9, 10}, []int{11}, []int{12, 0}), api.Twice},
		// A label that is empty goes ahead of what is unknown.
		{api.Stmt{Kind: api.Case, Exprs: []api.Expr{unknown}, Labels: [][]int{{}}, Blocks: make([][]api.Stmt, 2)}, api.Typing},
		// A DO of what is no call, whatever is wrong in it.
		{api.Stmt{Kind: api.Do, Exprs: n}, api.Typing}, {api.Stmt{Kind: api.Do, Exprs: []api.Expr{unknown}}, api.Typing}, {api.Stmt{Kind: api.Do, Exprs: []api.Expr{{}}}, api.Typing},
		{api.Stmt{Kind: api.Do, Exprs: []api.Expr{call}}, api.Fine}, {api.Stmt{Kind: api.Do, Exprs: []api.Expr{{Kind: api.Neg, Args: []api.Expr{call}}}}, api.Typing},
		{api.Stmt{Kind: api.Do, Exprs: []api.Expr{{Kind: api.Invoke, N: 3, Name: "b", What: "get"}}}, api.Typing},
		// Names, numbers and empty lists where a form has no place for them.
		{api.Stmt{Kind: api.Return, N: 5, Name: "nowhere", Exprs: []api.Expr{}, Labels: [][]int{}, Blocks: [][]api.Stmt{}}, api.Fine},
		{api.Stmt{Kind: api.While, Name: "nowhere", N: 0, Exprs: yes, Blocks: [][]api.Stmt{nil}}, api.Fine},
		{api.Stmt{Kind: api.For, Name: "n", N: math.MinInt, Exprs: []api.Expr{zero(), zero()}, Blocks: [][]api.Stmt{exit}}, api.Fine},
		// The form of a part is asked when its turn comes.
		{api.Stmt{Kind: api.While, Exprs: []api.Expr{unknown}, Blocks: [][]api.Stmt{wrong}}, api.Unknown}, {api.Stmt{Kind: api.While, Exprs: yes, Blocks: [][]api.Stmt{wrong}}, api.Typing},
		{api.Stmt{Kind: api.Assign, Name: "nowhere", Exprs: []api.Expr{ill()}}, api.Unknown}, {api.Stmt{Kind: api.Assign, Name: "n", Exprs: []api.Expr{ill()}}, api.Typing},
		{api.Stmt{Kind: api.If, Exprs: []api.Expr{yes[0], unknown}, Blocks: [][]api.Stmt{exit, nil, nil}}, api.Typing},
	} {
		if code := typing.Stmts(u, body, []api.Stmt{x.s}); code != x.want {
			t.Errorf("P7.3: %v is %d, not %d", x.s, code, x.want)
		}
	}
	// What would be well with fewer parts, in a loop.
	for _, x := range []api.Stmt{{Kind: api.Exit}, {Kind: api.Return}, {Kind: api.Do, Exprs: []api.Expr{call}}, {Kind: api.Assign, Name: "n", Exprs: n}} {
		more, blocks, labels := x, x, x
		more.Exprs = append(slices.Clone(x.Exprs), zero(), zero())
		blocks.Blocks, labels.Labels = make([][]api.Stmt, 1), [][]int{{1}}
		for _, s := range []api.Stmt{x, more, blocks, labels} {
			want := api.Typing
			if reflect.DeepEqual(s, x) {
				want = api.Fine
			}
			loop := api.Stmt{Kind: api.While, Exprs: yes, Blocks: [][]api.Stmt{{s}}}
			if code := typing.Stmts(u, body, []api.Stmt{loop}); code != want {
				t.Errorf("P7.3: %v is %d, not %d", loop, code, want)
			}
		}
	}
	ahead := []api.Stmt{{Kind: api.Return, Exprs: []api.Expr{unknown}}, {Kind: 12}}
	if code := typing.Stmts(u, body, ahead); code != api.Unknown {
		t.Errorf("P7.3: an unknown name ahead of no kind is %d", code)
	}
	for _, l := range [][]api.Stmt{nil, {}} {
		if code := typing.Stmts(u, body, l); code != api.Fine {
			t.Errorf("P7.3: no statements are %d", code)
		}
	}
}

// TestOddPlaces has variables and results that no rules let be.
func TestOddPlaces(t *testing.T) {
	u := odd()
	named := func(name string) api.Expr { return api.Expr{Kind: api.Name, Name: name} }
	back := func(exprs ...api.Expr) api.Stmt { return api.Stmt{Kind: api.Return, Exprs: exprs} }
	set := func(name string, e api.Expr) api.Stmt {
		return api.Stmt{Kind: api.Assign, Name: name, Exprs: []api.Expr{e}}
	}
	method := map[string]int{"ref": 0, "part": 1, "list": 2, "none": 3, "strange": 4, "full": 7}
	for _, x := range []struct {
		in   string
		s    api.Stmt
		want int
	}{
		{"ref", back(api.Expr{Kind: api.Null}), api.Fine}, {"ref", back(named("r")), api.Fine}, {"ref", back(named("rd")), api.Typing}, {"ref", back(), api.Typing},
		{"part", back(zero()), api.Fine}, {"part", back(named("b")), api.Typing}, {"part", back(), api.Typing},
		{"list", back(zero()), api.Typing}, {"list", back(), api.Typing}, {"strange", back(zero()), api.Typing}, {"strange", back(), api.Typing},
		{"none", back(), api.Fine}, {"none", back(zero()), api.Typing}, {"none", back(unknown), api.Unknown}, {"full", back(zero()), api.Fine},
		{"none", set("x", zero()), api.Typing}, {"none", set("z", zero()), api.Typing}, {"none", set("z", unknown), api.Unknown}, {"none", set("n", named("n")), api.Fine}, {"none", set("n", named("r")), api.Typing},
	} {
		if code := typing.Stmts(u, api.Where{Decl: 2, Method: method[x.in]}, []api.Stmt{x.s}); code != x.want {
			t.Errorf("P7.3: %v in %s is %d, not %d", x.s, x.in, code, x.want)
		}
	}
	// What a Dir of 1 may not be is asked wherever the variable stands.
	held := api.Unit{Decls: []api.Decl{{Kind: api.Class, Vars: []api.Var{{Name: "f", Type: number, Dir: 1}}, Methods: []api.Method{{
		Params: []api.Var{{Name: "p", Type: number, Dir: 1}}, Vars: []api.Var{{Name: "v", Type: number, Dir: 1}, {Name: "w", Type: number, Dir: 3}, {Name: "l", Type: api.Type{Kind: api.Array}, Dir: 1}},
	}}}}}
	for name, want := range map[string]int{"f": api.Typing, "p": api.Typing, "v": api.Typing, "w": api.Fine} {
		loop := api.Stmt{Kind: api.For, Name: name, N: 1, Exprs: []api.Expr{zero(), zero()}, Blocks: make([][]api.Stmt, 1)}
		for _, x := range []api.Stmt{set(name, zero()), loop} {
			if code := typing.Stmts(held, api.Where{}, []api.Stmt{x}); code != want {
				t.Errorf("P7.3: %v is %d, not %d", x, code, want)
			}
		}
	}
	if code := typing.Stmts(held, api.Where{}, []api.Stmt{{Kind: api.Put, Name: "l", Exprs: []api.Expr{zero(), zero()}}}); code != api.Fine {
		t.Errorf("P7.3: an array of Dir 1 is %d", code)
	}
}
