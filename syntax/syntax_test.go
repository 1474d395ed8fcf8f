package syntax_test

import (
	"errors"
	"math/rand"
	"reflect"
	"slices"
	"strings"
	"sync"
	"testing"

	"governor/api"
	"governor/diag"
	"governor/lex"
	"governor/syntax"
)

// short cuts a source for a message.
func short(src string) string {
	if len(src) > 300 {
		return src[:300] + ".."
	}
	return src
}

// parsed asks for a unit, and no error.
func parsed(t *testing.T, src string) (api.Unit, []int) {
	t.Helper()
	unit, places, err := syntax.Parse(src)
	if err != nil {
		t.Errorf("P4.1: Parse(%q): %v", short(src), err)
	}
	return unit, places
}

// wrong asks Parse for nothing but an error of that code at that place.
func wrong(t *testing.T, src string, code, at int) {
	t.Helper()
	unit, places, err := syntax.Parse(src)
	gotCode, gotAt, ok := diag.Find(err)
	if !ok || gotCode != code || gotAt != at || !errors.Is(err, diag.Of(code)) {
		t.Errorf("P4.2: Parse(%q): %v, not code %d at %d", short(src), err, code, at)
	}
	if len(unit.Decls) != 0 || len(places) != 0 {
		t.Errorf("P4.2: Parse(%q): a unit beside an error", short(src))
	}
}

// wrongExpr asks Expr for nothing but an error of that code at that place.
func wrongExpr(t *testing.T, src string, code, at int) {
	t.Helper()
	e, err := syntax.Expr(src)
	gotCode, gotAt, ok := diag.Find(err)
	if !ok || gotCode != code || gotAt != at || !errors.Is(err, diag.Of(code)) {
		t.Errorf("P4.2: Expr(%q): %v, not code %d at %d", short(src), err, code, at)
	}
	if !reflect.DeepEqual(e, api.Expr{}) {
		t.Errorf("P4.2: Expr(%q): a tree beside an error", short(src))
	}
}

// same holds trees against one another: a list nil or empty is the same.
func same(a, b any) bool {
	return alike(reflect.ValueOf(a), reflect.ValueOf(b))
}

func alike(a, b reflect.Value) bool {
	switch a.Kind() {
	case reflect.Slice:
		if a.Len() != b.Len() {
			return false
		}
		for i := range a.Len() {
			if !alike(a.Index(i), b.Index(i)) {
				return false
			}
		}
		return true
	case reflect.Struct:
		for i := range a.NumField() {
			if !alike(a.Field(i), b.Field(i)) {
				return false
			}
		}
		return true
	}
	return a.Equal(b)
}

// marked takes the one @ out of a source: the place at which it stood.
func marked(src string) (string, int) {
	return strings.Replace(src, "@", "", 1), strings.Index(src, "@")
}

func num(n int) api.Expr                     { return api.Expr{Kind: api.Num, N: n} }
func named(name string) api.Expr             { return api.Expr{Kind: api.Name, Name: name} }
func of(kind int, args ...api.Expr) api.Expr { return api.Expr{Kind: kind, Args: args} }
func bin(op int, left, right api.Expr) api.Expr {
	return api.Expr{Kind: api.Bin, N: op, Args: []api.Expr{left, right}}
}

func TestExprTree(t *testing.T) {
	for _, x := range []struct {
		src  string
		want api.Expr
	}{
		{"7", num(7)},
		{"32768", num(32768)},
		{"TRUE", of(api.True)},
		{"FALSE", of(api.False)},
		{"NULL", of(api.Null)},
		{"a", named("a")},
		{"a [ 7 ]", api.Expr{Kind: api.Index, Name: "a", Args: []api.Expr{num(7)}}},
		{"- a", of(api.Neg, named("a"))},
		{"- 5", of(api.Neg, num(5))},
		{"NOT a", of(api.Not, named("a"))},
		{"REF ( a )", api.Expr{Kind: api.RefOf, Name: "a"}},
		{"DONE ( a )", api.Expr{Kind: api.Out, Name: "a"}},
		{"COUNT ( a )", api.Expr{Kind: api.Count, Name: "a"}},
		{"AS a ( b )", api.Expr{Kind: api.As, Name: "a", Args: []api.Expr{named("b")}}},
		{"a . m ( )", api.Expr{Kind: api.Invoke, Name: "a", What: "m"}},
		{"THIS . m ( 1 )", api.Expr{Kind: api.Invoke, N: 1, What: "m", Args: []api.Expr{num(1)}}},
		{"SUPER . m ( 1 , 2 , 3 )", api.Expr{Kind: api.Invoke, N: 2, What: "m", Args: []api.Expr{num(1), num(2), num(3)}}},
		{"( ( a ) )", named("a")},
		{"( a + 1 ) * 2", bin(api.Mul, bin(api.Add, named("a"), num(1)), num(2))},
		{"a - ( b / c )", bin(api.Sub, named("a"), bin(api.Div, named("b"), named("c")))},
		{"- ( - a )", of(api.Neg, of(api.Neg, named("a")))},
		{"NOT ( a = b )", of(api.Not, bin(api.Eq, named("a"), named("b")))},
		{"(- a)MOD(NOT b)", bin(api.Mod, of(api.Neg, named("a")), of(api.Not, named("b")))},
	} {
		if got, err := syntax.Expr(x.src); err != nil || !same(got, x.want) {
			t.Errorf("P4.1: Expr(%q): %v, %v, not %v", x.src, got, err, x.want)
		}
	}
	for i, op := range strings.Fields("+ - * / MOD = <> < <= > >= AND OR XOR") {
		if got, err := syntax.Expr("a " + op + " 1"); err != nil || !same(got, bin(api.Add+i, named("a"), num(1))) {
			t.Errorf("P4.1: operator %s: %v, %v", op, got, err)
		}
	}
}

func TestStmtTree(t *testing.T) {
	exit := []api.Stmt{{Kind: api.Exit}}
	a, b := named("a"), named("b")
	for _, x := range []struct {
		src  string
		want api.Stmt
	}{
		{"x := a", api.Stmt{Kind: api.Assign, Name: "x", Exprs: []api.Expr{a}}},
		{"x [ a ] := b", api.Stmt{Kind: api.Put, Name: "x", Exprs: []api.Expr{a, b}}},
		{"x ?= a", api.Stmt{Kind: api.Attempt, Name: "x", Exprs: []api.Expr{a}}},
		{"x . m ( a )", api.Stmt{Kind: api.Do, Exprs: []api.Expr{{Kind: api.Invoke, Name: "x", What: "m", Args: []api.Expr{a}}}}},
		{"THIS . m ( )", api.Stmt{Kind: api.Do, Exprs: []api.Expr{{Kind: api.Invoke, N: 1, What: "m"}}}},
		{"SUPER . m ( )", api.Stmt{Kind: api.Do, Exprs: []api.Expr{{Kind: api.Invoke, N: 2, What: "m"}}}},
		{"IF a THEN EXIT ; END_IF", api.Stmt{Kind: api.If, Exprs: []api.Expr{a}, Blocks: [][]api.Stmt{exit, nil}}},
		{"IF a THEN ELSE EXIT ; END_IF", api.Stmt{Kind: api.If, Exprs: []api.Expr{a}, Blocks: [][]api.Stmt{nil, exit}}},
		{"IF a THEN EXIT ; ELSIF b THEN ELSE END_IF", api.Stmt{Kind: api.If, Exprs: []api.Expr{a, b}, Blocks: [][]api.Stmt{exit, nil, nil}}},
		{"IF a THEN ELSIF b THEN EXIT ; END_IF", api.Stmt{Kind: api.If, Exprs: []api.Expr{a, b}, Blocks: [][]api.Stmt{nil, exit, nil}}},
		{"CASE a OF END_CASE", api.Stmt{Kind: api.Case, Exprs: []api.Expr{a}, Blocks: [][]api.Stmt{nil}}},
		{"CASE a OF ELSE EXIT ; END_CASE", api.Stmt{Kind: api.Case, Exprs: []api.Expr{a}, Blocks: [][]api.Stmt{exit}}},
		{"CASE a OF 1 , - 2 : EXIT ; - 3 : 4 : ELSE EXIT ; END_CASE", api.Stmt{Kind: api.Case, Exprs: []api.Expr{a},
			Labels: [][]int{{1, -2}, {-3}, {4}}, Blocks: [][]api.Stmt{exit, nil, nil, exit}}},
		{"WHILE a DO EXIT ; END_WHILE", api.Stmt{Kind: api.While, Exprs: []api.Expr{a}, Blocks: [][]api.Stmt{exit}}},
		{"FOR i := a TO b BY - 2 DO EXIT ; END_FOR", api.Stmt{Kind: api.For, Name: "i", N: -2, Exprs: []api.Expr{a, b}, Blocks: [][]api.Stmt{exit}}},
		{"FOR i := 1 TO 2 BY 3 DO END_FOR", api.Stmt{Kind: api.For, Name: "i", N: 3, Exprs: []api.Expr{num(1), num(2)}, Blocks: [][]api.Stmt{nil}}},
		{"RETURN", api.Stmt{Kind: api.Return}},
		{"RETURN a", api.Stmt{Kind: api.Return, Exprs: []api.Expr{a}}},
		{"EXIT", api.Stmt{Kind: api.Exit}},
		{"STEP x ( a , b )", api.Stmt{Kind: api.Step, Name: "x", Exprs: []api.Expr{a, b}}},
	} {
		want := api.Unit{Decls: []api.Decl{{Kind: api.Program, Name: "P", Body: []api.Stmt{x.want, {Kind: api.Exit}}}}}
		if got, places := parsed(t, "PROGRAM P ; "+x.src+" ; EXIT ; END_PROGRAM"); !same(got, want) || !slices.Equal(places, []int{0}) {
			t.Errorf("P4.1: %q: %v at %v, not %v", x.src, got, places, want)
		}
	}
}

func TestTypeTree(t *testing.T) {
	for src, want := range map[string]api.Type{
		"INT":                  {Kind: api.Int},
		"INT ( 1 .. 9 )":       {Kind: api.Range, Lo: 1, Hi: 9},
		"INT(-32768..-1)":      {Kind: api.Range, Lo: -32768, Hi: -1},
		"INT ( 5 .. - 32768 )": {Kind: api.Range, Lo: 5, Hi: -32768},
		"BOOL":                 {Kind: api.Bool},
		"ARRAY [ 7 ] OF INT":   {Kind: api.Array, Hi: 7},
		"ARRAY[32768]OF INT":   {Kind: api.Array, Hi: 32768},
		"REF_TO C":             {Kind: api.Ref, Name: "C"},
		"C":                    {Kind: api.Inst, Name: "C"},
		"TON":                  {Kind: api.Timer, Lo: api.TON},
		"TOF":                  {Kind: api.Timer, Lo: api.TOF},
		"TP":                   {Kind: api.Timer, Lo: api.TP},
		"CTU":                  {Kind: api.Timer, Lo: api.CTU},
		"CTD":                  {Kind: api.Timer, Lo: api.CTD},
		"R_TRIG":               {Kind: api.Timer, Lo: api.RTrig},
		"F_TRIG":               {Kind: api.Timer, Lo: api.FTrig},
	} {
		src = "INTERFACE I ; METHOD m ( a : INT , b : " + src + " ) : " + src + " ; METHOD n ( ) ; END_INTERFACE" +
			" PROGRAM P ; VAR v : " + src + " ; VAR w : " + src + " := - 3 AT OUT 4 ; END_PROGRAM"
		got, _ := parsed(t, src)
		expected := api.Unit{Decls: []api.Decl{
			{Kind: api.Interface, Name: "I", Methods: []api.Method{
				{Name: "m", Params: []api.Var{{Name: "a", Type: api.Type{Kind: api.Int}}, {Name: "b", Type: want}}, Result: want},
				{Name: "n"}}},
			{Kind: api.Program, Name: "P", Vars: []api.Var{{Name: "v", Type: want}, {Name: "w", Type: want, Init: -3, Dir: 2, Slot: 4}}},
		}}
		if !same(got, expected) {
			t.Errorf("P4.1: %q: %v, not %v", src, got, expected)
		}
	}
}

func TestDeclTree(t *testing.T) {
	src := "\nCLASS A ; END_CLASS CLASS ABSTRACT B EXTENDS A ; METHOD ABSTRACT m ( ) ; END_METHOD END_CLASS(* *)" +
		"CLASS FINAL C IMPLEMENTS I , J ; VAR f : BOOL := 1 ; METHOD OVERRIDE FINAL m ( ) : INT ; VAR v : INT ; RETURN 1 ; END_METHOD" +
		" METHOD n ( ) ; END_METHOD END_CLASS CLASS ABSTRACT FINAL D EXTENDS B IMPLEMENTS K ; METHOD OVERRIDE ABSTRACT FINAL o ( ) ; END_METHOD END_CLASS" +
		" PROGRAM P ; VAR x : INT AT IN 3 ; EXIT ; END_PROGRAM TASK T ( INTERVAL 5 , PRIORITY 2 ) : P ;"
	integer := api.Type{Kind: api.Int}
	want := []api.Decl{
		{Kind: api.Class, Name: "A"},
		{Kind: api.Class, Name: "B", Base: "A", Abstract: true, Methods: []api.Method{{Name: "m", Abstract: true}}},
		{Kind: api.Class, Name: "C", Final: true, Faces: []string{"I", "J"}, Vars: []api.Var{{Name: "f", Type: api.Type{Kind: api.Bool}, Init: 1}},
			Methods: []api.Method{{Name: "m", Over: true, Final: true, Result: integer, Vars: []api.Var{{Name: "v", Type: integer}},
				Body: []api.Stmt{{Kind: api.Return, Exprs: []api.Expr{num(1)}}}}, {Name: "n"}}},
		{Kind: api.Class, Name: "D", Base: "B", Faces: []string{"K"}, Abstract: true, Final: true,
			Methods: []api.Method{{Name: "o", Over: true, Abstract: true, Final: true}}},
		{Kind: api.Program, Name: "P", Vars: []api.Var{{Name: "x", Type: integer, Dir: 1, Slot: 3}}, Body: []api.Stmt{{Kind: api.Exit}}},
		{Kind: api.TaskOf, Name: "T", Every: 5, First: 2, Base: "P"},
	}
	got, places := parsed(t, src)
	if !same(got, api.Unit{Decls: want}) {
		t.Errorf("P4.1: %v, not %v", got, want)
	}
	begins := []int{1, strings.Index(src, "CLASS ABSTRACT B"), strings.Index(src, "CLASS FINAL C"), strings.Index(src, "CLASS ABSTRACT FINAL D"),
		strings.Index(src, "PROGRAM"), strings.Index(src, "TASK")}
	if !slices.Equal(places, begins) {
		t.Errorf("P4.2: places %v, not %v", places, begins)
	}
}

func TestNothing(t *testing.T) {
	for _, src := range []string{"", " \n", "(* *)"} {
		if unit, places := parsed(t, src); len(unit.Decls) != 0 || len(places) != 0 {
			t.Errorf("P4.2: Parse(%q): %v, %v", src, unit, places)
		}
		wrongExpr(t, src, api.Syntax, len(src))
	}
}

// TestMade holds what is read of sources made by chance against the trees of which they were made.
func TestMade(t *testing.T) {
	tried := 0
	for seed := range int64(600) {
		m := &maker{Rand: rand.New(rand.NewSource(seed)), few: 1 + int(seed%4), deep: 6}
		want := m.unit()
		src, at := m.written()
		if len(src) > api.MaxSource || len(m.tokens) > api.MaxTokens {
			continue
		}
		tried++
		got, places := parsed(t, src)
		if !same(got, want) {
			t.Fatalf("P4.1: Parse(%q): %v, not %v", src, got, want)
		}
		for i, begin := range m.begins {
			if places[i] != at[begin] {
				t.Fatalf("P4.2: Parse(%q): places %v", src, places)
			}
		}
		m = &maker{Rand: m.Rand, few: 3, deep: 6}
		tree := m.expr(1)
		src, _ = m.written()
		if len(src) > api.MaxSource || len(m.tokens) > api.MaxTokens {
			continue
		}
		if got, err := syntax.Expr(src); err != nil || !same(got, tree) {
			t.Fatalf("P4.1: Expr(%q): %v, %v, not %v", src, got, err, tree)
		}
	}
	if tried < 300 {
		t.Errorf("only %d sources were short enough", tried)
	}
}

// all are all words of the language and signs, a name and numbers.
var all = strings.Fields(`INTERFACE END_INTERFACE CLASS END_CLASS PROGRAM END_PROGRAM METHOD END_METHOD TASK INTERVAL PRIORITY
	EXTENDS IMPLEMENTS ABSTRACT FINAL OVERRIDE VAR AT IN OUT INT BOOL ARRAY OF REF_TO REF TON TOF TP CTU CTD R_TRIG F_TRIG TRUE
	FALSE NULL THIS SUPER AS NOT AND OR XOR MOD IF THEN ELSIF ELSE END_IF CASE END_CASE WHILE DO END_WHILE FOR TO BY END_FOR
	RETURN EXIT STEP DONE COUNT := ?= .. <> <= >= + - * / = < > ( ) [ ] , ; : . name 0 32768`)

// spoil changes some tokens by chance.
func spoil(r *rand.Rand, tokens []string) []string {
	for range 1 + r.Intn(2) {
		i := r.Intn(len(tokens))
		switch token := all[r.Intn(len(all))]; r.Intn(4) {
		case 0:
			tokens = slices.Delete(tokens, i, i+1)
		case 1:
			tokens = slices.Insert(tokens, i, token)
		case 2:
			tokens[i] = token
		case 3:
			tokens = tokens[:i]
		}
		if len(tokens) == 0 {
			return tokens
		}
	}
	return tokens
}

// TestSyntax holds the place of what no unit, no expression, goes on with against
// the grammar; the sources are small enough for nothing to be nested too deeply, or too many.
func TestSyntax(t *testing.T) {
	for seed := range int64(3000) {
		m := &maker{Rand: rand.New(rand.NewSource(seed)), few: 2, deep: 4}
		form := []string{"unit", "expr"}[seed%2]
		if form == "unit" {
			m.put("PROGRAM p ;")
			m.stmt(1)
			m.put("; END_PROGRAM")
			m.decl()
		} else {
			m.expr(1)
		}
		if len(m.tokens) > 700 {
			continue
		}
		m.tokens = spoil(m.Rand, m.tokens)
		src, places := m.written()
		at, ends := stuck(form, m.tokens)
		places = append(places, len(src))
		if !ends {
			if form == "unit" {
				parsed(t, src)
			} else if _, err := syntax.Expr(src); err != nil {
				t.Errorf("P4.2: Expr(%q): %v", src, err)
			}
			continue
		}
		if form == "unit" {
			wrong(t, src, api.Syntax, places[at])
		} else {
			wrongExpr(t, src, api.Syntax, places[at])
		}
	}
}

// everything has every form in it.
const everything = `INTERFACE i ; METHOD m ( a : INT , b : REF_TO i ) : BOOL ; METHOD n ( ) ; END_INTERFACE
CLASS ABSTRACT FINAL c EXTENDS d IMPLEMENTS i , j ; VAR v : INT ( - 1 .. 2 ) := - 1 ; VAR w : ARRAY [ 3 ] OF INT ;
METHOD OVERRIDE ABSTRACT FINAL m ( a : TON ) : INT ; VAR x : c ; RETURN ; RETURN - 1 ; END_METHOD END_CLASS
PROGRAM p ; VAR x : INT AT IN 1 ; VAR y : BOOL := 1 AT OUT 2 ; x := a [ 1 ] + b . m ( 1 , NULL ) ; x [ 1 ] := NOT REF ( y ) ;
x ?= AS c ( y ) ; THIS . m ( ) ; SUPER . m ( ) ; IF a THEN x := DONE ( b ) ; ELSIF b THEN x := COUNT ( b ) ; ELSE EXIT ; END_IF ;
CASE ( a XOR b ) OF 1 , - 2 : EXIT ; 3 : ELSE EXIT ; END_CASE ; WHILE TRUE DO EXIT ; END_WHILE ;
FOR k := 1 TO 2 BY - 1 DO EXIT ; END_FOR ; STEP x ( 1 , FALSE ) ; END_PROGRAM TASK t ( INTERVAL 1 , PRIORITY 0 ) : p ;`

// TestEachToken puts each token at the place of each one of a source.
func TestEachToken(t *testing.T) {
	tokens := strings.Fields(everything)
	for i := range tokens {
		ahead := strings.Join(tokens[:i], " ") + " "
		going := goOn("unit", tokens[:i])
		for _, other := range all {
			_, _, err := syntax.Parse(ahead + other)
			_, at, _ := diag.Find(err)
			if good := err == nil || at > len(ahead); good != going[sort(other)] {
				t.Errorf("P4.2: Parse(%q): %v", ahead+other, err)
			}
			if !going[sort(other)] {
				wrong(t, ahead+other+" x", api.Syntax, len(ahead))
			}
		}
	}
}

// TestEnds cuts a source behind each of its tokens.
func TestEnds(t *testing.T) {
	tokens := strings.Fields(everything)
	for i := 1; i <= len(tokens); i++ {
		src := strings.Join(tokens[:i], " ") + " (* *) "
		if _, ends := stuck("unit", tokens[:i]); ends {
			wrong(t, src, api.Syntax, len(src))
		} else {
			parsed(t, src)
		}
	}
	for _, src := range []string{"-", "NOT ", "a +", "( a", "a [ 1", "a . ", "a . m (", "a . m ( 1 ,", "THIS", "REF", "AS c (", "( ( ( ( ( ( "} {
		wrongExpr(t, src, api.Syntax, len(src))
	}
}

// wrapped are the ways in which an operand has an expression in it: the last
// three have others ahead of it.
var wrapped = []string{"( # )", "a [ # ]", "a . m ( # )", "THIS . m ( # )", "SUPER . m ( # , 1 )", "AS c ( # )",
	"- ( # )", "NOT ( # )", "1 + ( # )", "( # ) + 1", "a . m ( 1 , # )", "THIS . m ( a , 2 , # )", "SUPER . m ( 1 , # , 1 )"}

// wrap puts ways around what is inside, so many; nothing else is nested as deep as that.
func wrap(r *rand.Rand, inside string, times int) string {
	among := wrapped[:len(wrapped)-3]
	for range times {
		inside = strings.Replace(among[r.Intn(len(among))], "#", inside, 1)
		among = wrapped
	}
	return inside
}

// forms are the statements that have an expression in them: it stands at the #.
var forms = []string{"x := #", "x [ # ] := 1", "x [ 1 ] := #", "x ?= #", "IF # THEN END_IF", "IF a THEN ELSIF # THEN END_IF",
	"CASE # OF END_CASE", "WHILE # DO END_WHILE", "FOR i := # TO 1 BY 1 DO END_FOR", "FOR i := 1 TO # BY 1 DO END_FOR",
	"RETURN #", "STEP x ( # , 1 )", "STEP x ( 1 , # )"}

func TestDeepExpr(t *testing.T) {
	r := rand.New(rand.NewSource(1))
	for _, inside := range []string{"7", "- 1", "NOT a", "a . m ( )", "( a", "TRUE + 1", "THIS . m ( )", "REF ( a )"} {
		for range 200 {
			src, at := marked(wrap(r, "@"+inside, 6))
			wrongExpr(t, src, api.Deep, at)
			form := forms[r.Intn(len(forms))]
			src, at = marked("PROGRAM P ; " + strings.Replace(form, "#", wrap(r, "@"+inside, 6), 1) + " ; END_PROGRAM")
			wrong(t, src, api.Deep, at)
		}
	}
	for range 200 {
		if _, err := syntax.Expr(wrap(r, "7", 5)); err != nil {
			t.Errorf("P4.2: at MaxDeep: %v", err)
		}
		parsed(t, "PROGRAM P ; "+strings.Replace(forms[r.Intn(len(forms))], "#", wrap(r, "- a", 5), 1)+" ; END_PROGRAM")
	}
	for _, form := range []string{"x . m ( # )", "THIS . m ( 1 , # )", "SUPER . m ( # , 1 )"} {
		parsed(t, "PROGRAM P ; "+strings.Replace(form, "#", wrap(r, "7", 4), 1)+" ; END_PROGRAM")
		src, at := marked("PROGRAM P ; " + strings.Replace(form, "#", wrap(r, "@7", 5), 1) + " ; END_PROGRAM")
		wrong(t, src, api.Deep, at)
	}
	parsed(t, "PROGRAM P ; x [ ((((( 1 ))))) ] := ((((( 1 ))))) + ((((( 1 ))))) ; x := ((((( 1 ))))) ; END_PROGRAM")
}

// nests are the statements that have a list in them: it stands at the #.
var nests = []string{"IF a THEN # END_IF ;", "IF a THEN # ELSE END_IF ;", "IF a THEN # ELSIF b THEN END_IF ;", "CASE a OF 1 : # END_CASE ;",
	"CASE a OF ELSE # END_CASE ;", "CASE a OF 1 : # ELSE END_CASE ;", "WHILE a DO # END_WHILE ;", "FOR i := 1 TO 2 BY 3 DO # END_FOR ;"}

// nest puts statements around a list, so many, and other statements about them.
func nest(r *rand.Rand, list string, times int) string {
	for range times {
		list = "x := 1 ; " + strings.Replace(nests[r.Intn(len(nests))], "#", list, 1) + " EXIT ;"
	}
	return list
}

func TestDeepList(t *testing.T) {
	r := rand.New(rand.NewSource(2))
	bodies := []string{"PROGRAM P ; # END_PROGRAM", "CLASS C ; METHOD m ( ) ; # END_METHOD END_CLASS"}
	for range 300 {
		for _, first := range []string{"@EXIT ;", "@x := 1 ;", "@THIS . m ( ) ;", "@IF a THEN END_IF ;", "@"} {
			inner := strings.Replace(nests[r.Intn(len(nests))], "# ", first+" ", 1)
			inner = strings.Replace(inner, "@ ", "@", 1)
			src, at := marked(strings.Replace(bodies[r.Intn(2)], "#", nest(r, inner, 5), 1))
			wrong(t, src, api.Deep, at)
		}
		parsed(t, strings.Replace(bodies[r.Intn(2)], "#", nest(r, "RETURN ;", 5), 1))
		parsed(t, strings.Replace(bodies[r.Intn(2)], "#", nest(r, "", 5), 1))
		parsed(t, strings.Replace(bodies[r.Intn(2)], "#", nest(r, "CASE a OF END_CASE ;", 5), 1))
	}
	src, at := marked("PROGRAM P ; " + strings.Repeat("CASE a OF 1 : ", 6) + "@- 2 : END_CASE ;")
	wrong(t, src, api.Deep, at)
}

// times is a text so many times.
func times(count int, text string) string { return strings.Repeat(text, count) }

func TestSize(t *testing.T) {
	for _, x := range []struct{ before, one, after string }{
		{times(11, "PROGRAM P ; END_PROGRAM "), "CLASS C ; END_CLASS ", ""},
		{times(11, "INTERFACE I ; END_INTERFACE "), "INTERFACE I ; END_INTERFACE ", ""},
		{times(11, "TASK T ( INTERVAL 1 , PRIORITY 1 ) : P ; "), "TASK T ( INTERVAL 1 , PRIORITY 1 ) : P ; ", ""},
		{"CLASS C ; END_CLASS CLASS C ; " + times(5, "METHOD m ( ) ; END_METHOD "), "METHOD m ( ) ; END_METHOD ", "END_CLASS"},
		{"INTERFACE C ; " + times(5, "METHOD m ( ) ; "), "METHOD m ( ) ; ", "END_INTERFACE"},
		{"INTERFACE C ; METHOD m ( " + times(2, "a : INT , "), "a : INT ", ") ; METHOD m ( a : INT ) ; END_INTERFACE"},
		{"CLASS C ; METHOD m ( " + times(2, "a : INT , "), "a : BOOL ", ") ; END_METHOD METHOD m ( a : INT ) ; END_METHOD END_CLASS"},
		{"PROGRAM P ; " + times(7, "VAR a : INT ; "), "VAR a : INT ; ", "END_PROGRAM"},
		{"CLASS C ; " + times(7, "VAR a : INT ; "), "VAR a : INT ; ", "METHOD m ( ) ; VAR a : INT ; END_METHOD END_CLASS"},
		{"CLASS C ; VAR a : INT ; METHOD m ( ) ; " + times(7, "VAR a : INT ; "), "VAR a : INT ; ", "END_METHOD END_CLASS"},
		{"PROGRAM P ; " + times(23, "EXIT ; "), "x := 1 ; ", "END_PROGRAM"},
		{"PROGRAM P ; " + times(23, "EXIT ; "), "THIS . m ( ) ; ", "END_PROGRAM"},
		{"CLASS C ; METHOD m ( ) ; " + times(23, "EXIT ; "), "IF a THEN EXIT ; END_IF ; ", "END_METHOD END_CLASS"},
		{"PROGRAM P ; EXIT ; WHILE a DO " + times(23, "EXIT ; "), "EXIT ; ", "END_WHILE ; END_PROGRAM"},
		{"PROGRAM P ; IF a THEN EXIT ; ELSE " + times(23, "EXIT ; "), "EXIT ; ", "END_IF ; END_PROGRAM"},
		{"PROGRAM P ; CASE a OF 1 : EXIT ; 2 : " + times(23, "EXIT ; "), "EXIT ; ", "3 : EXIT ; END_CASE ; END_PROGRAM"},
		{"CLASS C IMPLEMENTS " + times(3, "i , "), "i ", "; END_CLASS"},
		{"PROGRAM P ; CASE a OF 1 : - 1 , " + times(6, "1 , "), "7 ", ": END_CASE ; END_PROGRAM"},
		{"PROGRAM P ; CASE a OF 1 : - 1 , " + times(6, "- 1 , "), "- 7 ", ": END_CASE ; END_PROGRAM"},
		{"PROGRAM P ; IF a THEN " + times(4, "ELSIF a THEN "), "ELSIF a THEN ", "ELSE END_IF ; END_PROGRAM"},
		{"PROGRAM P ; CASE a OF " + times(5, "1 : "), "2 : ", "ELSE END_CASE ; END_PROGRAM"},
		{"PROGRAM P ; CASE a OF " + times(5, "1 : "), "- 2 , 3 : ", "ELSE END_CASE ; END_PROGRAM"},
		{"PROGRAM P ; x := a . m ( " + times(2, "1 , "), "1 ", ") ; END_PROGRAM"},
		{"PROGRAM P ; SUPER . m ( " + times(2, "1 , "), "( - a ) ", ") ; END_PROGRAM"},
	} {
		parsed(t, x.before+x.one+x.after)
		between := ""
		if strings.HasSuffix(x.before, ", ") {
			between = ", "
		}
		src, at := marked(x.before + x.one + between + "@" + x.one + x.after)
		tooMany(t, src, at)
	}
	for _, x := range []string{"a . m ( 1 , 2 , 3 , @4 )", "( THIS . m ( 1 , SUPER . m ( 1 , 2 , 3 ) , 3 , @( 4 ) ) )", "AS c ( SUPER . m ( NULL , 2 , 3 , @- 4 ) )"} {
		src, at := marked(x)
		wrongExpr(t, src, api.Size, at)
	}
}

// tooMany asks for Size at a place, whatever stands behind it.
func tooMany(t *testing.T, src string, at int) {
	t.Helper()
	wrong(t, src, api.Size, at)
	first := strings.IndexByte(src[at:]+" ", ' ')
	wrong(t, src[:at+first], api.Size, at)
	wrong(t, src[:at+first]+" END_PROGRAM END_PROGRAM", api.Size, at)
}

// TestOrder has several errors in one source: the first place's is told.
func TestOrder(t *testing.T) {
	thirteen := times(12, "PROGRAM P ; END_PROGRAM ")
	for _, x := range []struct {
		code int
		src  string
	}{
		{api.Syntax, "PROGRAM P ; x := @; y := (((((( 1 )))))) ; END_PROGRAM"},
		{api.Deep, "PROGRAM P ; x := (((((( @1 )))))) ; y := ; END_PROGRAM"},
		{api.Deep, "PROGRAM P ; x := ((((((@1 2 )))))) ; END_PROGRAM"},
		{api.Size, "PROGRAM P ; x := a . m ( 1 , 2 , 3 , @(((((( 1 )))))) ) ; END_PROGRAM"},
		{api.Deep, "PROGRAM P ; x := a . m ( ((((( @1 ))))) , 2 , 3 , 4 ) ; END_PROGRAM"},
		{api.Size, "PROGRAM P ; x := a . m ( 1 , 2 , 3 , @4 5 ) ; END_PROGRAM"},
		{api.Syntax, "PROGRAM P ; x := a . m ( 1 , 2 , 3 @4 , 5 ) ; END_PROGRAM"},
		{api.Size, thirteen + "@PROGRAM ; x"},
		{api.Size, thirteen + "@CLASS C ; METHOD m ( ) ; EXIT EXIT"},
		// What may end there is none too many.
		{api.Syntax, "PROGRAM P ; " + times(24, "EXIT ; ") + "@) END_PROGRAM"},
		{api.Syntax, "CLASS C ; " + times(6, "METHOD m ( ) ; END_METHOD ") + "@VAR x : INT ; END_CLASS"},
		{api.Syntax, "PROGRAM P ; " + times(8, "VAR a : INT ; ") + "@METHOD m ( ) ; END_METHOD END_PROGRAM"},
	} {
		src, at := marked(x.src)
		wrong(t, src, x.code, at)
	}
	// Where there is no token any more, nothing is too deep, and nothing too many.
	for _, src := range []string{"PROGRAM P ; x := (((((( ", "PROGRAM P ; " + times(6, "IF a THEN "), "PROGRAM P ; x := a . m ( 1 , 2 , 3 , "} {
		wrong(t, src, api.Syntax, len(src))
	}
}

// TestTokens asks for lex's errors, ahead of all others.
func TestTokens(t *testing.T) {
	for _, src := range []string{"PROGRAM # P", "x REAL", "; ; LREAL", "PROGRAM P ; (* END_PROGRAM", "( ( ( ( ( ( ( 32769", "abcdefghijklm", "?",
		times(api.MaxTokens+1, "("), times(api.MaxTokens, ";") + " REAL", times(api.MaxSource, " ") + " ", times(api.MaxSource+1, "#")} {
		_, err := lex.All(src)
		code, at, ok := diag.Find(err)
		if !ok {
			t.Fatalf("lex.All(%q) is well", short(src))
		}
		wrong(t, src, code, at)
		wrongExpr(t, src, code, at)
		_, _, err = syntax.Parse(src)
		var found *diag.Error
		if !errors.As(err, &found) || found.Code != code || found.At != at {
			t.Errorf("P4.2: Parse(%q): %v", short(src), err)
		}
	}
}

// TestLong reads sources that are as long as may be.
func TestLong(t *testing.T) {
	for _, one := range []string{"(", "(*", "- ", "NOT ", "IF a THEN ", "PROGRAM ", "METHOD ", "a . m (", "CASE 1 OF 1 :", "[", ";", "a ", "1 "} {
		src := times(api.MaxSource/len(one), one)
		src = src[:min(len(src), len(one)*(api.MaxTokens/2))]
		unit, _, err := syntax.Parse(src)
		if err == nil || len(unit.Decls) > 0 {
			t.Errorf("P4.2: Parse of many %q: %v", one, err)
		}
		if _, err := syntax.Expr(src); err == nil {
			t.Errorf("P4.2: Expr of many %q is well", one)
		}
	}
	wrongExpr(t, times(1500, "("), api.Deep, 6)
	wrongExpr(t, times(700, "a["), api.Deep, 12)
	src := "PROGRAM P ; " + times(24, "x:=((((1*2)+3)-4)/5)AND(a.m(1,2,3)+b[1]); ") + " END_PROGRAM"
	parsed(t, src+times(api.MaxSource-len(src), " "))
}

// TestApart changes one answer: another one of the same source stays as it was, and so does the source.
func TestApart(t *testing.T) {
	src := everything
	one, places := parsed(t, src)
	two, _ := parsed(t, src)
	places[0] = -1
	for i := range one.Decls {
		one.Decls[i].Name = "changed"
		for j := range one.Decls[i].Methods {
			one.Decls[i].Methods[j].Params = append(one.Decls[i].Methods[j].Params[:0], api.Var{Name: "changed"})
		}
		one.Decls[i].Body = append(one.Decls[i].Body[:0], api.Stmt{})
	}
	three, again := parsed(t, src)
	if !same(two, three) || !slices.Equal(again[:1], []int{0}) || src != everything {
		t.Error("R4: answers share memory")
	}
	var all sync.WaitGroup
	for range 8 {
		all.Add(1)
		go func() {
			defer all.Done()
			if unit, _, err := syntax.Parse(src); err != nil || !same(unit, two) {
				t.Errorf("R5: %v", err)
			}
		}()
	}
	all.Wait()
}
