package typing_test

import (
	"math"
	"testing"

	"governor/api"
	"governor/typing"
)

// TestExpr types expressions of sources.
func TestExpr(t *testing.T) {
	u := whole(t)
	for _, x := range []struct {
		w    api.Where
		want api.Type
		srcs []string
	}{
		{body, number, []string{
			"0", "32768", "n", "i", "o", "p", "l [ 0 ]", "l [ n ]", "l [ l [ p ] ]", "- 1", "- p", "- l [ 1 ]", "COUNT ( k )",
			"1 + 2", "n - p", "n * i", "n / 0", "n MOD o", "l [ 1 ] + COUNT ( k )", "- ( n + 1 )",
			"b . get ( )", "r . get ( )", "s . get ( )", "d . get ( )", "b . take ( 1 , NULL , NULL )", "b . take ( p , r , s )",
			"b . take ( n , REF ( b ) , REF ( b ) )", "d . take ( n , d , d )", "b . take ( b . get ( ) , AS A ( s ) , r )",
		}},
		{body, truth, []string{
			"TRUE", "FALSE", "t", "u", "NOT t", "NOT ( n = 1 )", "DONE ( k )",
			"1 < 2", "n <= p", "n > i", "n >= l [ 1 ]", "n = p", "n <> 1", "t = u", "t <> TRUE", "t AND u", "t OR FALSE", "t XOR DONE ( k )",
			"r = NULL", "NULL = NULL", "NULL <> s", "r = s", "r <> j", "r = q", "REF ( b ) = REF ( c )", "AS C ( r ) = d", "( n < 1 ) = ( n > 1 )",
			"b . bare ( )", "r . bare ( )", "c . own ( )", "r . only ( d )", "r . only ( NULL )", "r . only ( r )", "c . own ( ) = r . only ( d )",
		}},
		{body, null, []string{"NULL"}},
		{body, ref("A"), []string{"r", "AS A ( NULL )", "AS A ( s )", "AS A ( q )"}},
		{body, ref("B"), []string{"REF ( b )", "d", "AS B ( r )", "AS B ( AS A ( j ) )"}},
		{body, ref("C"), []string{"REF ( c )", "AS C ( r )"}},
		{body, ref("I"), []string{"s", "AS I ( j )"}},
		// What is of a type, or refers to it, need not be of one that there is.
		{body, ref("X"), []string{"q", "REF ( v )"}},
		{body, ref("P"), []string{"y", "REF ( m )"}},
		{get, number, []string{"f", "THIS . get ( )", "f + THIS . get ( )"}},
		{get, truth, []string{"THIS . bare ( )", "THIS . only ( NULL )", "g", "twice"}},
		{bare, number, []string{"THIS . get ( )", "SUPER . get ( )", "THIS . take ( 1 , NULL , e )", "e . get ( )", "l [ h ]"}},
		{bare, truth, []string{"THIS . bare ( )", "SUPER . only ( NULL )", "f = h"}},
		{take, truth, []string{"f", "SUPER . only ( twice )", "THIS . only ( twice )", "THIS . bare ( )", "loc AND f"}},
		{take, number, []string{"x", "twice . get ( )", "z . get ( )", "THIS . take ( x , twice , z )"}},
		{own, truth, []string{"THIS . own ( )"}},
	} {
		for _, src := range x.srcs {
			if got, code := typing.Expr(u, x.w, expr(t, src)); got != x.want || code != api.Fine {
				t.Errorf("P7.2: %s at %v is %v, %d, not %v", src, x.w, got, code, x.want)
			}
		}
	}
}

// TestWrongExpr has expressions of sources, with the code of what is wrong first in them.
func TestWrongExpr(t *testing.T) {
	u := whole(t)
	for _, x := range []struct {
		w    api.Where
		want int
		srcs []string
	}{
		{body, api.Unknown, []string{
			"z", "z [ 1 ]", "REF ( z )", "DONE ( z )", "COUNT ( z )", "AS X ( r )", "AS P ( r )", "AS T ( r )", "AS r ( r )", "z . get ( )", "B . get ( )",
			// A part that is wrong.
			"- z", "NOT z", "l [ z ]", "AS A ( z )", "z + 1", "1 + z", "b . only ( z )", "- ( - ( z ) )",
			// The variable's type is no class or interface.
			"q . get ( )", "y . get ( )", "v . get ( )", "m . get ( )",
			// The first of two that are wrong.
			"z [ TRUE ]", "z + ( NOT 1 )", "z AND 1", "TRUE + z", "l [ z ] + ( - TRUE )", "AS X ( 1 )", "AS X ( NOT 1 )", "z . nothing ( 1 )",
			"q . nothing ( - TRUE )", "b . get ( z )", "b . only ( z , - TRUE )", "b . only ( 1 , z )", "c . more ( z )", "z = NULL", "1 = z",
		}},
		{body, api.Typing, []string{
			"l", "b", "k", "c", "m",
			"n [ 0 ]", "p [ 0 ]", "r [ 0 ]", "k [ 0 ]", "b [ 0 ]", "l [ TRUE ]", "l [ r ]", "l [ l ]", "l [ NULL ]",
			"- TRUE", "- r", "- NULL", "- l", "NOT 1", "NOT n", "NOT r", "NOT p",
			"REF ( n )", "REF ( r )", "REF ( l )", "REF ( k )", "REF ( p )", "DONE ( n )", "DONE ( b )", "DONE ( t )", "COUNT ( n )", "COUNT ( l )", "COUNT ( r )",
			"AS A ( 1 )", "AS A ( TRUE )", "AS I ( n )", "AS A ( b )",
			"n . get ( )", "t . get ( )", "p . get ( )", "l . get ( )", "k . get ( )",
			"1 + TRUE", "TRUE + 1", "t - t", "r * 1", "1 / NULL", "t MOD 2", "r + r",
			"t < t", "1 <= TRUE", "r > r", "NULL >= 1",
			"1 AND 1", "t AND 1", "1 OR t", "r XOR r", "NULL OR NULL",
			"1 = TRUE", "TRUE = 1", "r = 1", "1 <> NULL", "t <> r", "TRUE = NULL",
			// No result.
			"c . more ( )", "b . none ( )", "j . none ( )", "s . set ( 1 , TRUE )", "b . part ( TRUE )", "- c . more ( )", "1 + c . more ( )", "b . only ( c . more ( ) )",
			// The first of two that are wrong.
			"n [ z ]", "( - TRUE ) + z", "( NOT 1 ) = z", "REF ( n ) = z", "n . nothing ( z )", "l [ - TRUE ] + z", "b . only ( - TRUE , z )", "b . get ( NOT 1 )", "AS A ( - TRUE )",
		}},
		{body, api.Call, []string{
			"THIS . get ( )", "SUPER . get ( )", "THIS . nothing ( )",
			"b . nothing ( )", "s . none ( )", "j . get ( )", "r . take ( 1 , r , s )", "r . none ( )", "c . get ( )", "b . Get ( )", "s . only ( NULL )",
			"b . get ( 1 )", "b . only ( )", "b . only ( r , r )", "b . take ( 1 , r )", "c . more ( 1 )", "s . set ( 1 )",
			"b . only ( 1 )", "b . only ( s )", "b . only ( q )", "b . only ( TRUE )", "b . take ( TRUE , r , s )", "b . take ( 1 , s , s )", "b . take ( 1 , r , j )", "b . take ( 1 , r , 1 )",
			"b . part ( 1 )", "b . none ( 1 )", "s . set ( TRUE , 1 )",
			// The first of two that are wrong.
			"b . nothing ( z )", "b . nothing ( - TRUE )", "THIS . get ( z )", "SUPER . get ( z )", "b . nothing ( ) + z", "1 + b . nothing ( )", "- b . get ( TRUE )", "l [ b . get ( 1 ) ]", "AS A ( b . nothing ( ) )",
		}},
		// No base, and a method of the base that is abstract.
		{get, api.Call, []string{"SUPER . get ( )", "SUPER . nothing ( z )", "THIS . take ( f , NULL , NULL )", "THIS . only ( )", "THIS . only ( f )"}},
		{bare, api.Call, []string{"SUPER . bare ( )", "SUPER . bare ( z )", "SUPER . take ( 1 , NULL , NULL )", "SUPER . none ( )", "THIS . nothing ( )", "e . only ( NULL )"}},
		{own, api.Call, []string{"SUPER . own ( )", "THIS . get ( )", "SUPER . get ( z )"}},
		{take, api.Typing, []string{"x + f", "l", "l [ f ]", "THIS . none ( )", "x . get ( )", "SUPER . set ( 1 , f )", "THIS . take ( - f , nowhere , z )"}},
		{take, api.Call, []string{"THIS . take ( f , twice , z )", "THIS . take ( x , z , twice )", "SUPER . only ( z )"}},
		{take, api.Unknown, []string{"n", "b . get ( )", "THIS . only ( b )", "SUPER . only ( b )", "THIS . none ( b )"}},
	} {
		for _, src := range x.srcs {
			if got, code := typing.Expr(u, x.w, expr(t, src)); got != (api.Type{}) || code != x.want {
				t.Errorf("P7.2: %s at %v is %v, %d, not %d", src, x.w, got, code, x.want)
			}
		}
	}
}

// unknown is an expression in which a name is wrong, ill one in which a kind is none.
var unknown = api.Expr{Kind: api.Name, Name: "nowhere"}

func ill() api.Expr { return api.Expr{Kind: 15} }

// zero is an expression that is well.
func zero() api.Expr { return api.Expr{Kind: api.Num} }

// TestFormOfExpr has kinds that are none, and each kind with other numbers of Args than it has: that is told ahead of all
// that is wrong in it.
func TestFormOfExpr(t *testing.T) {
	u := whole(t)
	args := map[int]int{api.Index: 1, api.Neg: 1, api.Not: 1, api.As: 1, api.Bin: 2}
	for kind := -1; kind <= 16; kind++ {
		for n := range 5 {
			for _, arg := range []api.Expr{zero(), unknown} {
				e := api.Expr{Kind: kind, Name: "nowhere", What: "nothing"}
				for range n {
					e.Args = append(e.Args, arg)
				}
				want := api.Typing
				if kind == api.Invoke {
					want = api.Unknown
				} else if kind >= api.Num && kind <= api.As && n == args[kind] {
					continue
				}
				if got, code := typing.Expr(u, body, e); got != (api.Type{}) || code != want {
					t.Errorf("P7.2: %v is %v, %d, not %d", e, got, code, want)
				}
			}
		}
	}
	for _, kind := range []int{0, 15, math.MaxInt, math.MinInt, 1 << 32} {
		if got, code := typing.Expr(u, body, api.Expr{Kind: kind, Name: "n"}); got != (api.Type{}) || code != api.Typing {
			t.Errorf("P7.2: an expression of kind %d is %v, %d", kind, got, code)
		}
	}
	// An empty list of Args is none.
	if got, code := typing.Expr(u, body, api.Expr{Kind: api.Num, Args: []api.Expr{}}); got != number || code != api.Fine {
		t.Errorf("P7.2: a number of empty Args is %v, %d", got, code)
	}
	// Of two parts the form of the second one is asked when its turn comes.
	if _, code := typing.Expr(u, body, api.Expr{Kind: api.Bin, N: api.Add, Args: []api.Expr{unknown, ill()}}); code != api.Unknown {
		t.Errorf("P7.2: an unknown name ahead of no kind is %d", code)
	}
	if _, code := typing.Expr(u, body, api.Expr{Kind: api.Bin, N: api.Add, Args: []api.Expr{ill(), unknown}}); code != api.Typing {
		t.Errorf("P7.2: no kind ahead of an unknown name is %d", code)
	}
	if _, code := typing.Expr(u, body, api.Expr{Kind: api.Index, Name: "nowhere", Args: []api.Expr{ill()}}); code != api.Unknown {
		t.Errorf("P7.2: an unknown name of no kind's place is %d", code)
	}
}

// TestNumbersOfExpr has operators, and what a call is of, whose numbers are none.
func TestNumbersOfExpr(t *testing.T) {
	u := whole(t)
	yes := api.Expr{Kind: api.True}
	for _, op := range []int{0, -1, 15, math.MaxInt, math.MinInt, 1 << 32} {
		for _, args := range [][]api.Expr{{zero(), zero()}, {yes, yes}, {{Kind: api.Null}, {Kind: api.Null}}} {
			if got, code := typing.Expr(u, body, api.Expr{Kind: api.Bin, N: op, Args: args}); got != (api.Type{}) || code != api.Typing {
				t.Errorf("P7.2: operator %d of %v is %v, %d", op, args, got, code)
			}
		}
		if _, code := typing.Expr(u, body, api.Expr{Kind: api.Bin, N: op, Args: []api.Expr{zero(), unknown}}); code != api.Unknown {
			t.Errorf("P7.2: operator %d of an unknown name is %d", op, code)
		}
	}
	for _, n := range []int{3, -1, math.MaxInt, math.MinInt, 1 << 32} {
		for _, w := range []api.Where{body, bare} {
			for _, e := range []api.Expr{{Name: "e", What: "get"}, {Name: "b", What: "get"}, {Name: "nowhere", What: "nothing", Args: []api.Expr{unknown}}} {
				e.Kind, e.N = api.Invoke, n
				if got, code := typing.Expr(u, w, e); got != (api.Type{}) || code != api.Typing {
					t.Errorf("P7.2: a call of %d is %v, %d", n, got, code)
				}
			}
		}
	}
	// What a form has no place for does not matter.
	if got, code := typing.Expr(u, bare, api.Expr{Kind: api.Invoke, N: 1, Name: "nowhere", What: "get"}); got != number || code != api.Fine {
		t.Errorf("P7.2: THIS with a name is %v, %d", got, code)
	}
	if got, code := typing.Expr(u, body, api.Expr{Kind: api.Num, N: math.MinInt, Name: "nowhere", What: "x"}); got != number || code != api.Fine {
		t.Errorf("P7.2: a great number is %v, %d", got, code)
	}
}

// odd is a unit that no rules let be: variables, parameters and results of any type.
func odd() api.Unit {
	part := api.Type{Kind: api.Range, Lo: 3, Hi: 1}
	result := func(name string, t api.Type, params ...api.Type) api.Method {
		m := api.Method{Name: name, Result: t}
		for _, p := range params {
			m.Params = append(m.Params, api.Var{Name: name, Type: p})
		}
		return m
	}
	ring := api.Decl{Kind: api.Class, Name: "R", Base: "S", Methods: []api.Method{result("mine", number), {Name: "bare", Abstract: true, Result: truth}}}
	gnir := api.Decl{Kind: api.Class, Name: "S", Base: "R", Methods: []api.Method{result("its", truth), result("mine", truth)}}
	self := api.Decl{Kind: api.Class, Name: "L", Base: "L", Methods: []api.Method{
		result("ref", ref("L")), result("part", part), result("list", api.Type{Kind: api.Array, Hi: 2}), result("none", api.Type{Name: "L", Lo: 1}),
		result("strange", api.Type{Kind: 77}), result("void", number, api.Type{}), result("many", truth, number, part, truth, null, ref("L")),
		result("full", api.Type{Kind: api.Int, Lo: 4, Hi: 5, Name: "x"}), result("sure", api.Type{Kind: api.Bool, Lo: 1, Hi: -2, Name: "y"}), result("inst", number, api.Type{Kind: api.Inst, Name: "L"}),
	}}
	self.Vars = []api.Var{
		{Name: "i", Type: api.Type{Kind: api.Int, Lo: 1, Hi: 2, Name: "L"}}, {Name: "b", Type: api.Type{Kind: api.Bool, Lo: 1}}, {Name: "p", Type: part},
		{Name: "r", Type: api.Type{Kind: api.Ref, Name: "L"}}, {Name: "n", Type: null}, {Name: "x", Type: api.Type{Kind: 77}}, {Name: "z"},
		{Name: "o", Type: api.Type{Kind: api.Inst, Name: "L"}}, {Name: "a", Type: api.Type{Kind: api.Array, Hi: -4}}, {Name: "t", Type: api.Type{Kind: api.Timer, Lo: 99}},
		{Name: "e", Type: api.Type{Kind: api.Inst}}, {Name: "d", Type: api.Type{Kind: api.Inst, Name: "D"}}, {Name: "rd", Type: ref("D")},
	}
	// Declared twice: the first one is no class.
	first, again := api.Decl{Kind: api.Program, Name: "D"}, api.Decl{Kind: api.Class, Name: "D", Methods: []api.Method{result("m", number)}}
	return api.Unit{Decls: []api.Decl{ring, gnir, self, first, again}}
}

// TestOddExpr types expressions of a unit that no rules let be.
func TestOddExpr(t *testing.T) {
	u := odd()
	in := func(d int) api.Where { return api.Where{Decl: d} }
	call := func(n int, name, what string, args ...api.Expr) api.Expr {
		return api.Expr{Kind: api.Invoke, N: n, Name: name, What: what, Args: args}
	}
	around := func(kind int, e api.Expr) api.Expr {
		return api.Expr{Kind: kind, Args: []api.Expr{e}}
	}
	two := func(op int, e api.Expr) api.Expr {
		return api.Expr{Kind: api.Bin, N: op, Args: []api.Expr{e, e}}
	}
	n, b, r := zero(), api.Expr{Kind: api.True}, api.Expr{Kind: api.Null}
	for _, x := range []struct {
		w    api.Where
		e    api.Expr
		want api.Type
		code int
	}{
		// The next of a ring, and a ring of one.
		{in(0), call(2, "", "mine"), truth, 0}, {in(1), call(2, "", "mine"), number, 0}, {in(0), call(2, "", "its"), truth, 0}, {in(0), call(1, "", "its"), truth, 0},
		{in(1), call(2, "", "bare"), api.Type{}, api.Call}, {in(1), call(1, "", "bare"), truth, 0}, {in(0), call(2, "", "bare"), api.Type{}, api.Call},
		{in(2), call(2, "", "ref"), api.Type{}, api.Call}, {in(2), call(1, "", "ref"), ref("L"), 0},
		// Results of any kind.
		{in(2), call(0, "o", "part"), api.Type{Kind: api.Range, Lo: 3, Hi: 1}, 0}, {in(2), call(0, "r", "list"), api.Type{Kind: api.Array, Hi: 2}, 0},
		{in(2), call(0, "r", "strange"), api.Type{Kind: 77}, 0}, {in(2), call(0, "r", "full"), api.Type{Kind: api.Int, Lo: 4, Hi: 5, Name: "x"}, 0},
		{in(2), call(0, "r", "none"), api.Type{}, api.Typing},
		{in(2), two(api.Eq, call(0, "r", "part")), api.Type{}, api.Typing}, {in(2), two(api.Eq, call(0, "r", "strange")), api.Type{}, api.Typing},
		{in(2), two(api.Add, call(0, "r", "part")), api.Type{}, api.Typing}, {in(2), two(api.Ne, call(0, "r", "ref")), truth, 0}, {in(2), two(api.Add, call(0, "r", "full")), number, 0},
		// What is negated keeps all that is told of its type; what is reckoned, or stands at a place, has a kind alone.
		{in(2), around(api.Neg, call(0, "r", "full")), api.Type{Kind: api.Int, Lo: 4, Hi: 5, Name: "x"}, 0}, {in(2), around(api.Neg, around(api.Neg, call(1, "", "full"))), api.Type{Kind: api.Int, Lo: 4, Hi: 5, Name: "x"}, 0},
		{in(2), around(api.Not, call(0, "o", "sure")), api.Type{Kind: api.Bool, Lo: 1, Hi: -2, Name: "y"}, 0}, {in(2), around(api.Not, around(api.Not, call(1, "", "sure"))), api.Type{Kind: api.Bool, Lo: 1, Hi: -2, Name: "y"}, 0},
		{in(2), around(api.Neg, api.Expr{Kind: api.Name, Name: "i"}), number, 0}, {in(2), around(api.Not, api.Expr{Kind: api.Name, Name: "b"}), truth, 0},
		{in(2), around(api.Neg, call(0, "r", "sure")), api.Type{}, api.Typing}, {in(2), around(api.Not, call(0, "r", "full")), api.Type{}, api.Typing}, {in(2), around(api.Neg, call(0, "r", "part")), api.Type{}, api.Typing}, {in(2), around(api.Not, call(0, "r", "none")), api.Type{}, api.Typing},
		{in(2), around(api.Not, around(api.Neg, call(0, "r", "full"))), api.Type{}, api.Typing}, {in(2), around(api.Neg, unknown), api.Type{}, api.Unknown}, {in(2), around(api.Not, call(0, "r", "sure", n)), api.Type{}, api.Call},
		{in(2), api.Expr{Kind: api.Index, Name: "a", Args: []api.Expr{around(api.Neg, call(0, "r", "full"))}}, number, 0}, {in(2), two(api.Sub, around(api.Neg, call(0, "r", "full"))), number, 0}, {in(2), two(api.And, around(api.Not, call(0, "r", "sure"))), truth, 0},
		// Parameters of any kind, and as many as one likes.
		{in(2), call(0, "r", "void", n), api.Type{}, api.Call}, {in(2), call(0, "r", "void"), api.Type{}, api.Call}, {in(2), call(0, "r", "inst", r), api.Type{}, api.Call},
		{in(2), call(0, "r", "many", n, n, b, r, r), truth, 0}, {in(2), call(0, "r", "many", n, n, b, r, n), api.Type{}, api.Call},
		{in(2), call(0, "r", "many", n, n, b, call(1, "", "ref"), r), api.Type{}, api.Call}, {in(2), call(0, "r", "many", n, n, b, r, call(1, "", "ref")), truth, 0},
		{in(2), call(0, "r", "many", n, call(1, "", "part"), b, r, r), api.Type{}, api.Call},
		{in(2), call(0, "r", "many", n, n, b, r, r, r), api.Type{}, api.Call}, {in(2), call(0, "r", "many", n, n, b, r), api.Type{}, api.Call},
		{in(2), call(0, "r", "many", b, n, b, r, r, unknown), api.Type{}, api.Unknown}, {in(2), call(0, "r", "many", b, ill()), api.Type{}, api.Typing},
		// Variables of any kind: of INT and BOOL the kind alone is told.
		{in(2), api.Expr{Kind: api.Name, Name: "i"}, number, 0}, {in(2), api.Expr{Kind: api.Name, Name: "b"}, truth, 0}, {in(2), api.Expr{Kind: api.Name, Name: "p"}, number, 0},
		{in(2), api.Expr{Kind: api.Name, Name: "n"}, null, 0}, {in(2), api.Expr{Kind: api.Name, Name: "x"}, api.Type{}, api.Typing}, {in(2), api.Expr{Kind: api.Name, Name: "z"}, api.Type{}, api.Typing},
		{in(2), api.Expr{Kind: api.Index, Name: "a", Args: []api.Expr{n}}, number, 0}, {in(2), api.Expr{Kind: api.RefOf, Name: "o"}, ref("L"), 0}, {in(2), api.Expr{Kind: api.RefOf, Name: "e"}, null, 0},
		{in(2), api.Expr{Kind: api.Out, Name: "t"}, truth, 0}, {in(2), api.Expr{Kind: api.Count, Name: "t"}, number, 0},
		// A reference to nothing that has a name, an instance of such, and one of a class that is not the first of its name.
		{in(2), call(0, "n", "ref"), api.Type{}, api.Typing}, {in(2), call(0, "e", "ref"), api.Type{}, api.Unknown}, {in(2), call(0, "d", "m"), api.Type{}, api.Unknown},
		{in(2), call(0, "rd", "m"), api.Type{}, api.Unknown}, {in(2), api.Expr{Kind: api.As, Name: "D", Args: []api.Expr{r}}, api.Type{}, api.Unknown},
		{in(4), call(1, "", "m"), number, 0},
	} {
		if got, code := typing.Expr(u, x.w, x.e); got != x.want || code != x.code {
			t.Errorf("P7.2: %v at %v is %v, %d, not %v, %d", x.e, x.w, got, code, x.want, x.code)
		}
	}
}
