package print_test

import (
	"math/rand"
	"reflect"
	"strings"
	"sync"
	"testing"

	"governor/api"
	"governor/lex"
	"governor/print"
	"governor/syntax"
)

func num(n int) api.Expr                     { return api.Expr{Kind: api.Num, N: n} }
func named(name string) api.Expr             { return api.Expr{Kind: api.Name, Name: name} }
func of(kind int, args ...api.Expr) api.Expr { return api.Expr{Kind: kind, Args: args} }
func bin(op int, args ...api.Expr) api.Expr  { return api.Expr{Kind: api.Bin, N: op, Args: args} }

// called is a call of m, of what n tells.
func called(n int, name string, args ...api.Expr) api.Expr {
	return api.Expr{Kind: api.Invoke, N: n, Name: name, What: "m", Args: args}
}

// within is an expression that has others under a name.
func within(kind int, name string, args ...api.Expr) api.Expr {
	return api.Expr{Kind: kind, Name: name, Args: args}
}

const lowest = -1 << 63

func TestExprs(t *testing.T) {
	a, b := named("a"), named("b")
	for _, x := range []struct {
		e    api.Expr
		text string
	}{
		{num(7), "7"}, {num(0), "0"}, {num(-5), "- 5"}, {num(123456789), "123456789"}, {num(lowest), "- 9223372036854775808"},
		{of(api.True), "TRUE"}, {of(api.False), "FALSE"}, {of(api.Null), "NULL"}, {a, "a"},
		{within(api.Index, "x", a), "x [ a ]"}, {of(api.Neg, a), "- a"}, {of(api.Not, a), "NOT a"},
		{within(api.RefOf, "x"), "REF ( x )"}, {within(api.Out, "x"), "DONE ( x )"}, {within(api.Count, "x"), "COUNT ( x )"},
		{within(api.As, "c", a), "AS c ( a )"},
		{called(0, "x"), "x . m ( )"}, {called(0, "x", a), "x . m ( a )"}, {called(0, "x", a, b, num(-1), b), "x . m ( a , b , - 1 , b )"},
		{called(1, "x", a), "THIS . m ( a )"}, {called(2, "", a, b), "SUPER . m ( a , b )"},
		// Only operands stand in brackets, and only those that have operators.
		{of(api.Neg, bin(api.Add, a, num(1))), "- ( a + 1 )"}, {of(api.Not, of(api.Not, a)), "NOT ( NOT a )"},
		{of(api.Neg, of(api.Neg, num(1))), "- ( - 1 )"}, {of(api.Neg, num(-1)), "- - 1"},
		{bin(api.Mul, of(api.Neg, a), of(api.Not, b)), "( - a ) * ( NOT b )"},
		{bin(api.Mul, bin(api.Add, a, num(1)), num(-2)), "( a + 1 ) * - 2"},
		{bin(api.Eq, within(api.Index, "x", bin(api.Sub, a, b)), within(api.As, "c", of(api.Neg, a))), "x [ a - b ] = AS c ( - a )"},
		{bin(api.Eq, called(1, "", of(api.Not, a), bin(api.Or, a, b)), within(api.RefOf, "x")), "THIS . m ( NOT a , a OR b ) = REF ( x )"},
		{of(api.Neg, within(api.Out, "x")), "- DONE ( x )"}, {of(api.Not, within(api.Count, "x")), "NOT COUNT ( x )"},
		{bin(api.And, of(api.True), of(api.Null)), "TRUE AND NULL"},
	} {
		if text := print.Expr(x.e); text != x.text {
			t.Errorf("P5.1: Expr(%v): %q, not %q", x.e, text, x.text)
		}
	}
	for op, text := range strings.Fields("+ - * / MOD = <> < <= > >= AND OR XOR") {
		if got := print.Expr(bin(op+1, a, b)); got != "a "+text+" b" {
			t.Errorf("P5.1: operator %d: %q", op+1, got)
		}
	}
}

func TestExprsWrong(t *testing.T) {
	a, b := named("a"), named("b")
	for _, x := range []struct {
		e    api.Expr
		text string
	}{
		{api.Expr{}, "?"}, {api.Expr{Kind: 15, N: 1, Name: "x", What: "m", Args: []api.Expr{a}}, "?"}, {of(-1, a), "?"}, {of(lowest), "?"},
		{of(api.Neg, of(15)), "- ?"}, {of(api.Not, of(0, of(api.Neg, a))), "NOT ?"},
		{bin(0, a, b), "a ? b"}, {bin(15, a, b), "a ? b"}, {bin(-1, a, b), "a ? b"}, {bin(1<<40, a), "a ? ?"},
		{of(api.Neg, bin(99)), "- ( ? ? ? )"},
		{called(3, "x", a), "? . m ( a )"}, {called(-1, "x"), "? . m ( )"},
		// Too short.
		{of(api.Neg), "- ?"}, {of(api.Not), "NOT ?"}, {bin(api.Add), "? + ?"}, {bin(api.Add, a), "a + ?"},
		{within(api.Index, "x"), "x [ ? ]"}, {within(api.As, "c"), "AS c ( ? )"},
		// Too long.
		{api.Expr{Kind: api.Num, N: 3, Name: "x", What: "m", Args: []api.Expr{a}}, "3"}, {of(api.True, a), "TRUE"}, {of(api.False, a), "FALSE"}, {of(api.Null, a), "NULL"},
		{within(api.Name, "x", a), "x"}, {within(api.Index, "x", a, b), "x [ a ]"}, {of(api.Neg, a, b), "- a"}, {of(api.Not, a, b), "NOT a"},
		{bin(api.Sub, a, b, a), "a - b"}, {within(api.RefOf, "x", a), "REF ( x )"}, {within(api.Out, "x", a), "DONE ( x )"},
		{within(api.Count, "x", a), "COUNT ( x )"}, {within(api.As, "c", a, b), "AS c ( a )"},
		// Any name is written as it is.
		{named("END_IF"), "END_IF"}, {named("a b\n\xff"), "a b\n\xff"}, {within(api.RefOf, ""), "REF (  )"},
	} {
		if text := print.Expr(x.e); text != x.text {
			t.Errorf("P5.1: Expr(%v): %q, not %q", x.e, text, x.text)
		}
	}
}

func TestTypes(t *testing.T) {
	for _, x := range []struct {
		t    api.Type
		text string
	}{
		{api.Type{Kind: api.Int, Lo: 1, Hi: 2, Name: "x"}, "INT"}, {api.Type{Kind: api.Bool}, "BOOL"},
		{api.Type{Kind: api.Range, Lo: -3, Hi: 5}, "INT ( - 3 .. 5 )"}, {api.Type{Kind: api.Range, Lo: 0, Hi: lowest}, "INT ( 0 .. - 9223372036854775808 )"},
		{api.Type{Kind: api.Array, Lo: 9, Hi: 4}, "ARRAY [ 4 ] OF INT"}, {api.Type{Kind: api.Array, Hi: -4}, "ARRAY [ - 4 ] OF INT"},
		{api.Type{Kind: api.Ref, Name: "c"}, "REF_TO c"}, {api.Type{Kind: api.Inst, Name: "c", Lo: 1}, "c"},
		{api.Type{}, "?"}, {api.Type{Kind: 8, Name: "c"}, "?"}, {api.Type{Kind: -1}, "?"},
		{api.Type{Kind: api.Timer}, "?"}, {api.Type{Kind: api.Timer, Lo: 8}, "?"}, {api.Type{Kind: api.Timer, Lo: -1, Name: "c"}, "?"},
	} {
		if text := print.Type(x.t); text != x.text {
			t.Errorf("P5.1: Type(%v): %q, not %q", x.t, text, x.text)
		}
	}
	for block, text := range strings.Fields("TON TOF TP CTU CTD R_TRIG F_TRIG") {
		if got := print.Type(api.Type{Kind: api.Timer, Lo: block + 1}); got != text {
			t.Errorf("P5.1: block %d: %q", block+1, got)
		}
	}
}

// exit is a list of one statement.
var exit = []api.Stmt{{Kind: api.Exit}}

// stmtText asks for a statement's text, in a program and in a method.
func stmtText(t *testing.T, s api.Stmt, text string) {
	t.Helper()
	body := []api.Stmt{s}
	program := print.Unit(api.Unit{Decls: []api.Decl{{Kind: api.Program, Name: "P", Body: body}}})
	if program != "PROGRAM P ; "+text+" END_PROGRAM\n" {
		t.Errorf("P5.1: %v: %q, not %q", s, program, text)
	}
	class := print.Unit(api.Unit{Decls: []api.Decl{{Kind: api.Class, Name: "C", Methods: []api.Method{{Name: "m", Body: body}}}}})
	if class != "CLASS C ; METHOD m ( ) ; "+text+" END_METHOD END_CLASS\n" {
		t.Errorf("P5.1: %v: %q, not %q", s, class, text)
	}
}

func TestStmts(t *testing.T) {
	a, b := named("a"), named("b")
	ab := []api.Expr{a, b}
	neg := of(api.Neg, a)
	for _, x := range []struct {
		s    api.Stmt
		text string
	}{
		{api.Stmt{Kind: api.Assign, Name: "x", Exprs: []api.Expr{neg}}, "x := - a ;"},
		{api.Stmt{Kind: api.Put, Name: "x", Exprs: []api.Expr{neg, b}}, "x [ - a ] := b ;"},
		{api.Stmt{Kind: api.Attempt, Name: "x", Exprs: []api.Expr{a}}, "x ?= a ;"},
		{api.Stmt{Kind: api.Do, Exprs: []api.Expr{called(2, "", a)}}, "SUPER . m ( a ) ;"},
		{api.Stmt{Kind: api.If, Exprs: []api.Expr{neg}, Blocks: [][]api.Stmt{exit, nil}}, "IF - a THEN EXIT ; END_IF ;"},
		{api.Stmt{Kind: api.If, Exprs: ab, Blocks: [][]api.Stmt{nil, exit, {}}}, "IF a THEN ELSIF b THEN EXIT ; END_IF ;"},
		{api.Stmt{Kind: api.If, Exprs: []api.Expr{a, b, a}, Blocks: [][]api.Stmt{nil, nil, nil, exit}}, "IF a THEN ELSIF b THEN ELSIF a THEN ELSE EXIT ; END_IF ;"},
		{api.Stmt{Kind: api.Case, Exprs: []api.Expr{a}, Labels: [][]int{{1, -2, 3}, {lowest}}, Blocks: [][]api.Stmt{exit, nil, exit}}, "CASE a OF 1 , - 2 , 3 : EXIT ; - 9223372036854775808 : ELSE EXIT ; END_CASE ;"},
		{api.Stmt{Kind: api.Case, Exprs: []api.Expr{a}, Labels: [][]int{{0}}, Blocks: [][]api.Stmt{exit, {}}}, "CASE a OF 0 : EXIT ; END_CASE ;"},
		{api.Stmt{Kind: api.Case, Exprs: []api.Expr{a}, Blocks: [][]api.Stmt{nil}}, "CASE a OF END_CASE ;"},
		{api.Stmt{Kind: api.Case, Exprs: []api.Expr{a}, Blocks: [][]api.Stmt{exit}}, "CASE a OF ELSE EXIT ; END_CASE ;"},
		{api.Stmt{Kind: api.While, Exprs: []api.Expr{a}, Blocks: [][]api.Stmt{append(exit, exit...)}}, "WHILE a DO EXIT ; EXIT ; END_WHILE ;"},
		{api.Stmt{Kind: api.For, Name: "i", N: -2, Exprs: []api.Expr{neg, b}, Blocks: [][]api.Stmt{exit}}, "FOR i := - a TO b BY - 2 DO EXIT ; END_FOR ;"},
		{api.Stmt{Kind: api.For, Name: "i", Exprs: ab, Blocks: [][]api.Stmt{nil}}, "FOR i := a TO b BY 0 DO END_FOR ;"},
		{api.Stmt{Kind: api.Return}, "RETURN ;"}, {api.Stmt{Kind: api.Return, Exprs: []api.Expr{neg}}, "RETURN - a ;"},
		{api.Stmt{Kind: api.Exit}, "EXIT ;"},
		{api.Stmt{Kind: api.Step, Name: "t", Exprs: []api.Expr{a, neg}}, "STEP t ( a , - a ) ;"},
	} {
		stmtText(t, x.s, x.text)
	}
}

func TestStmtsWrong(t *testing.T) {
	a, b := named("a"), named("b")
	ab := []api.Expr{a, b}
	abc := []api.Expr{a, b, named("c")}
	exits := [][]api.Stmt{exit, exit, exit, exit}
	for _, x := range []struct {
		s    api.Stmt
		text string
	}{
		{api.Stmt{}, "? ;"}, {api.Stmt{Kind: 12, N: 1, Name: "x", Exprs: ab, Labels: [][]int{{1}}, Blocks: exits}, "? ;"}, {api.Stmt{Kind: -1, Blocks: exits}, "? ;"},
		// Too short.
		{api.Stmt{Kind: api.Assign, Name: "x"}, "x := ? ;"}, {api.Stmt{Kind: api.Put, Name: "x"}, "x [ ? ] := ? ;"}, {api.Stmt{Kind: api.Put, Name: "x", Exprs: ab[:1]}, "x [ a ] := ? ;"},
		{api.Stmt{Kind: api.Attempt, Name: "x"}, "x ?= ? ;"}, {api.Stmt{Kind: api.Do, Name: "x"}, "? ;"},
		{api.Stmt{Kind: api.If}, "IF ? THEN END_IF ;"}, {api.Stmt{Kind: api.If, Exprs: ab}, "IF a THEN ELSIF b THEN END_IF ;"},
		{api.Stmt{Kind: api.If, Blocks: exits[:1]}, "IF ? THEN EXIT ; END_IF ;"}, {api.Stmt{Kind: api.If, Exprs: ab, Blocks: exits[:1]}, "IF a THEN EXIT ; ELSIF b THEN END_IF ;"},
		{api.Stmt{Kind: api.Case}, "CASE ? OF END_CASE ;"}, {api.Stmt{Kind: api.Case, Labels: [][]int{{1}, {2}}, Blocks: exits[:1]}, "CASE ? OF 1 : EXIT ; 2 : END_CASE ;"},
		{api.Stmt{Kind: api.Case, Exprs: ab[:1], Labels: [][]int{{}, {2}, nil}, Blocks: exits}, "CASE a OF : EXIT ; 2 : EXIT ; : EXIT ; ELSE EXIT ; END_CASE ;"},
		{api.Stmt{Kind: api.While}, "WHILE ? DO END_WHILE ;"}, {api.Stmt{Kind: api.While, Blocks: exits[:1]}, "WHILE ? DO EXIT ; END_WHILE ;"},
		{api.Stmt{Kind: api.For, Name: "i", N: 1}, "FOR i := ? TO ? BY 1 DO END_FOR ;"}, {api.Stmt{Kind: api.For, Name: "i", Exprs: ab[:1]}, "FOR i := a TO ? BY 0 DO END_FOR ;"},
		{api.Stmt{Kind: api.Step, Name: "t"}, "STEP t ( ? , ? ) ;"}, {api.Stmt{Kind: api.Step, Name: "t", Exprs: ab[:1]}, "STEP t ( a , ? ) ;"},
		// Too long.
		{api.Stmt{Kind: api.Assign, Name: "x", N: 1, Exprs: ab, Blocks: exits}, "x := a ;"}, {api.Stmt{Kind: api.Put, Name: "x", Exprs: abc, Blocks: exits}, "x [ a ] := b ;"},
		{api.Stmt{Kind: api.Attempt, Name: "x", Exprs: ab, Blocks: exits}, "x ?= a ;"}, {api.Stmt{Kind: api.Do, Name: "x", Exprs: ab, Blocks: exits}, "a ;"},
		{api.Stmt{Kind: api.If, Name: "x", Exprs: ab[:1], Labels: [][]int{{1}}, Blocks: exits}, "IF a THEN EXIT ; ELSE EXIT ; END_IF ;"},
		{api.Stmt{Kind: api.If, Blocks: exits}, "IF ? THEN EXIT ; ELSE EXIT ; END_IF ;"},
		{api.Stmt{Kind: api.Case, Name: "x", Exprs: ab, Labels: [][]int{{1}}, Blocks: exits}, "CASE a OF 1 : EXIT ; ELSE EXIT ; END_CASE ;"},
		{api.Stmt{Kind: api.While, Name: "x", Exprs: ab, Labels: [][]int{{1}}, Blocks: exits}, "WHILE a DO EXIT ; END_WHILE ;"},
		{api.Stmt{Kind: api.For, Name: "i", Exprs: abc, Labels: [][]int{{1}}, Blocks: exits}, "FOR i := a TO b BY 0 DO EXIT ; END_FOR ;"},
		{api.Stmt{Kind: api.Return, N: 1, Name: "x", Exprs: ab, Blocks: exits}, "RETURN a ;"}, {api.Stmt{Kind: api.Exit, Name: "x", Exprs: ab, Blocks: exits}, "EXIT ;"},
		{api.Stmt{Kind: api.Step, Name: "t", Exprs: abc, Blocks: exits}, "STEP t ( a , b ) ;"},
		// An expression of a statement that is none.
		{api.Stmt{Kind: api.Return, Exprs: []api.Expr{{}}}, "RETURN ? ;"}, {api.Stmt{Kind: api.Do, Exprs: []api.Expr{bin(0, a)}}, "a ? ? ;"},
	} {
		stmtText(t, x.s, x.text)
	}
}

// declText asks for a declaration's text.
func declText(t *testing.T, d api.Decl, text string) {
	t.Helper()
	if got := print.Unit(api.Unit{Decls: []api.Decl{d}}); got != text+"\n" {
		t.Errorf("P5.1: %v: %q, not %q", d, got, text)
	}
}

func TestDecls(t *testing.T) {
	types := [...]api.Type{{}, {Kind: api.Int}, {Kind: api.Bool}, {Kind: 9}}
	params := []api.Var{{Name: "a", Type: types[1], Init: 5, Dir: 1, Slot: 6}, {Name: "b", Type: types[0], Dir: 2}}
	vars := []api.Var{{Name: "x", Type: types[1]}, {Name: "y", Type: types[2], Init: 1, Dir: 2, Slot: 3}, {Name: "z", Type: types[3], Init: -7, Dir: 1}, {Name: "w", Type: types[0], Init: lowest, Dir: 3, Slot: 4}, {Name: "v", Type: types[1], Dir: -1, Slot: -4}, {Name: "u", Type: types[1], Dir: 1, Slot: -4}}
	varsText := "VAR x : INT ; VAR y : BOOL := 1 AT OUT 3 ; VAR z : ? := - 7 AT IN 0 ; VAR w : ? := - 9223372036854775808 ; VAR v : INT ; VAR u : INT AT IN - 4 ; "
	methods := []api.Method{
		{Name: "m", Result: types[2], Params: params[:1]},
		{Name: "n", Over: true, Vars: vars, Params: params, Body: exit},
		{Name: "o", Abstract: true, Final: true, Result: types[3]},
	}
	faces := []string{"I", "J", "K", "I", "L", "M"}
	for _, x := range []struct {
		d    api.Decl
		text string
	}{
		{api.Decl{Kind: api.Interface, Name: "I"}, "INTERFACE I ; END_INTERFACE"},
		{api.Decl{Kind: api.Interface, Name: "I", Base: "B", Faces: faces, Abstract: true, Final: true, Vars: vars, Body: exit, Methods: methods}, "INTERFACE I ; METHOD m ( a : INT ) : BOOL ; METHOD n ( a : INT , b : ? ) ; METHOD o ( ) : ? ; END_INTERFACE"},
		{api.Decl{Kind: api.Class, Name: "C"}, "CLASS C ; END_CLASS"},
		{api.Decl{Kind: api.Class, Name: "C", Abstract: true}, "CLASS ABSTRACT C ; END_CLASS"},
		{api.Decl{Kind: api.Class, Name: "C", Final: true, Base: "B"}, "CLASS FINAL C EXTENDS B ; END_CLASS"},
		{api.Decl{Kind: api.Class, Name: "C", Abstract: true, Final: true, Faces: faces[:1]}, "CLASS ABSTRACT FINAL C IMPLEMENTS I ; END_CLASS"},
		{api.Decl{Kind: api.Class, Name: "C", Base: "B", Faces: faces, Vars: vars, Methods: methods, Body: exit}, "CLASS C EXTENDS B IMPLEMENTS I , J , K , I , L , M ; " + varsText + "METHOD m ( a : INT ) : BOOL ; END_METHOD METHOD OVERRIDE n ( a : INT , b : ? ) ; " + varsText + "EXIT ; END_METHOD METHOD ABSTRACT FINAL o ( ) : ? ; END_METHOD END_CLASS"},
		{api.Decl{Kind: api.Program, Name: "P"}, "PROGRAM P ; END_PROGRAM"},
		{api.Decl{Kind: api.Program, Name: "P", Base: "B", Faces: faces, Abstract: true, Final: true, Vars: vars, Methods: methods, Body: append(exit, exit...)}, "PROGRAM P ; " + varsText + "EXIT ; EXIT ; END_PROGRAM"},
		{api.Decl{Kind: api.TaskOf, Name: "T", Base: "P", Every: 5, First: 2, Vars: vars, Methods: methods, Body: exit}, "TASK T ( INTERVAL 5 , PRIORITY 2 ) : P ;"},
		{api.Decl{Kind: api.TaskOf, Every: -5, First: lowest}, "TASK  ( INTERVAL - 5 , PRIORITY - 9223372036854775808 ) :  ;"},
		{api.Decl{}, "?"}, {api.Decl{Kind: 5, Name: "C", Vars: vars, Methods: methods, Body: exit}, "?"}, {api.Decl{Kind: -1}, "?"},
	} {
		declText(t, x.d, x.text)
	}
}

func TestUnits(t *testing.T) {
	if text := print.Unit(api.Unit{}); text != "" {
		t.Errorf("P5.1: no declaration: %q", text)
	}
	u := api.Unit{Decls: []api.Decl{{Kind: api.Class, Name: "C"}, {}, {Kind: api.Interface, Name: "I"}}}
	if text := print.Unit(u); text != "CLASS C ; END_CLASS\n?\nINTERFACE I ; END_INTERFACE\n" {
		t.Errorf("P5.1: three declarations: %q", text)
	}
}

// again asks that what is written is read as the same tree.
func again(t *testing.T, u api.Unit) {
	t.Helper()
	text := print.Unit(u)
	unit, _, err := syntax.Parse(text)
	if len(text) > api.MaxSource {
		return
	}
	if err != nil || !reflect.DeepEqual(unit, u) {
		t.Fatalf("P5.2: %.300q is read as another tree: %v", text, err)
	}
}

// TestPlain has sources that stand there as print writes them.
func TestPlain(t *testing.T) {
	for seed := range 500 {
		a := author{rand.New(rand.NewSource(int64(seed))), true}
		src, unit := a.source()
		if text := print.Unit(unit); text != src {
			t.Fatalf("P5.1: %.300q is written %.300q", src, text)
		}
		again(t, unit)
		src = a.expr()
		e, err := syntax.Expr(src)
		if text := print.Expr(e); err != nil || text != src {
			t.Fatalf("P5.1: %q is written %q, %v", src, text, err)
		}
	}
}

// TestAgain has sources with brackets and more that the tree doesn't tell of.
func TestAgain(t *testing.T) {
	for seed := range 500 {
		a := author{rand.New(rand.NewSource(int64(seed))), false}
		_, unit := a.source()
		again(t, unit)
		lines := strings.SplitAfter(print.Unit(unit), "\n")
		if len(lines) != len(unit.Decls)+1 || lines[len(unit.Decls)] != "" {
			t.Fatalf("P5.1: %d lines of %d declarations", len(lines), len(unit.Decls))
		}
		for _, line := range lines[:len(unit.Decls)] {
			if line != blanked(line)+"\n" {
				t.Fatalf("P5.1: blanks of %.300q", line)
			}
		}
		e, _ := syntax.Expr(a.expr())
		if back, err := syntax.Expr(print.Expr(e)); err != nil || !reflect.DeepEqual(back, e) {
			t.Fatalf("P5.2: %q is read as %v, %v", print.Expr(e), back, err)
		}
	}
}

// blanked is the tokens of a source with one blank between.
func blanked(src string) string {
	tokens, _ := lex.All(src)
	var texts []string
	for _, token := range tokens {
		texts = append(texts, token.Text)
	}
	return strings.Join(texts, " ")
}

// TestGreat has trees as great, and as deep, as they may come.
func TestGreat(t *testing.T) {
	deep := named("a")
	for range 999 {
		deep = of(api.Neg, deep)
	}
	if text := print.Expr(deep); text != strings.Repeat("- ( ", 998)+"- a"+strings.Repeat(" )", 998) {
		t.Errorf("P5.1: deep: %.80q", text)
	}
	list := []api.Stmt{{Kind: api.Exit}}
	for range 999 {
		list = []api.Stmt{{Kind: api.While, Exprs: []api.Expr{named("a")}, Blocks: [][]api.Stmt{list}}}
	}
	list = append(list, make([]api.Stmt, 60000)...)
	text := print.Unit(api.Unit{Decls: []api.Decl{{Kind: api.Program, Name: "P", Body: list}}})
	if text != "PROGRAM P ; "+strings.Repeat("WHILE a DO ", 999)+"EXIT ; "+strings.Repeat("END_WHILE ; ", 999)+strings.Repeat("? ; ", 60000)+"END_PROGRAM\n" {
		t.Errorf("P5.1: a great list: %.80q", text)
	}
}

// TestAtOneTime has what is handed in unchanged, and like answers, in several goroutines.
func TestAtOneTime(t *testing.T) {
	src, unit := (&author{rand.New(rand.NewSource(7)), true}).source()
	var all sync.WaitGroup
	for range 8 {
		all.Go(func() {
			if text := print.Unit(unit); text != src {
				t.Errorf("R5: %.300q", text)
			}
		})
	}
	all.Wait()
	if again, _, _ := syntax.Parse(src); !reflect.DeepEqual(again, unit) {
		t.Error("R4: the unit is changed")
	}
}
