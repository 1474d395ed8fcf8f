package syntax_test

import (
	"math/rand"
	"slices"
	"strings"
	"testing"

	"governor/api"
	"governor/diag"
	"governor/syntax"
)

// atLimit puts each token, but some, behind tokens behind which all else that
// could go on is too deep, or too many: a token with which nothing goes on is neither.
func atLimit(t *testing.T, form, ahead string, code int, but ...string) {
	t.Helper()
	ask := wrong
	if form == "expr" {
		ask = wrongExpr
	}
	tokens := strings.Fields(ahead)
	ahead = strings.Join(tokens, " ") + " "
	ask(t, ahead, api.Syntax, len(ahead))
	going := goOn(form, tokens)
	limited := 0
	for _, token := range all {
		if slices.Contains(but, token) {
			continue
		}
		expected := api.Syntax
		if going[sort(token)] {
			expected = code
			limited++
		}
		for _, behind := range []string{"", " 1", " ) ;", " x := 1 ;"} {
			ask(t, ahead+token+behind, expected, len(ahead))
		}
	}
	if limited == 0 {
		t.Errorf("nothing goes on behind %q", ahead)
	}
}

// TestDeepNoExpr has tokens with which no expression begins where one would be nested too deeply.
func TestDeepNoExpr(t *testing.T) {
	for _, last := range []string{"(", "a [", "AS c (", "- (", "NOT a [", "1 + (", "a . m (", "THIS . m (", "SUPER . m ("} {
		var but []string
		if strings.HasSuffix(last, "m (") {
			but = []string{")"} // the call may end there
		}
		ahead := times(5, "( ") + last
		atLimit(t, "expr", ahead, api.Deep, but...)
		atLimit(t, "expr", "1 + "+ahead, api.Deep, but...)
		atLimit(t, "unit", "PROGRAM p ; x := "+ahead, api.Deep, but...)
		atLimit(t, "unit", "PROGRAM p ; STEP x ( 1 , "+ahead, api.Deep, but...)
	}
	parsed(t, "PROGRAM p ; x := ( ( ( ( ( a . m ( ) ) ) ) ) ) ; END_PROGRAM")
}

// TestDeepNoStmt has tokens with which no statement begins, and no list ends, where one would be nested too deeply.
func TestDeepNoStmt(t *testing.T) {
	lists := []string{"IF a THEN ", "CASE x OF 1 : ", "CASE x OF - 1 , 2 : ", "CASE x OF ELSE ", "WHILE a DO ", "FOR i := 1 TO 2 BY - 1 DO "}
	outer := append(lists, "IF a THEN ELSE ", "IF a THEN EXIT ; ELSIF b THEN ", "CASE x OF 1 : 2 : ", "WHILE a DO x := 1 ; ")
	for i := range outer {
		for j, last := range lists {
			ahead := times(4, outer[i]) + outer[(i+j+1)%len(outer)] + last
			atLimit(t, "unit", "PROGRAM p ; "+ahead, api.Deep)
			atLimit(t, "unit", "CLASS c ; METHOD m ( ) ; "+ahead, api.Deep)
		}
	}
	// Behind another word of that statement Deep was told ahead of the token.
	for _, last := range []string{"IF a THEN @ELSE 7", "IF a THEN @ELSIF 7", "CASE a OF 1 : @ELSE 7", "CASE a OF 1 : @2 ) 7", "CASE a OF 1 : @- ) 7"} {
		src, at := marked("PROGRAM p ; " + times(5, "WHILE a DO ") + last)
		wrong(t, src, api.Deep, at)
	}
}

// TestSizeNoneMore has tokens with which no argument, parameter, name or int begins behind a comma behind as many as there may be.
func TestSizeNoneMore(t *testing.T) {
	for _, ahead := range []string{"a . m ( 1 , - b , ( c ) ,", "THIS . m ( 1 , 2 , a [ 3 ] ,", "SUPER . m ( NULL , a . m ( 1 , 2 , 3 ) , NOT x ,",
		"( ( ( ( ( 1 ) ) ) ) ) + a . m ( 1 , 2 , 3 ,", "( ( ( ( a . m ( 1 , 2 , 3 ,"} {
		atLimit(t, "expr", ahead, api.Size)
		atLimit(t, "unit", "PROGRAM p ; IF "+ahead, api.Size)
	}
	for _, ahead := range []string{
		"PROGRAM p ; a . m ( 1 , 2 , 3 ,",
		"CLASS c ; METHOD n ( ) ; SUPER . m ( 1 , 2 , 3 ,",
		"INTERFACE i ; METHOD m ( a : INT , b : REF_TO i , c : INT ( 1 .. 2 ) ,",
		"CLASS c ; METHOD OVERRIDE m ( a : INT , b : TON , c : d ,",
		"CLASS c IMPLEMENTS a , b , c , d ,",
		"CLASS ABSTRACT c EXTENDS b IMPLEMENTS a , b , c , d ,",
		"PROGRAM p ; CASE x OF 1 , 2 , 3 , 4 , 5 , 6 , 7 , - 8 ,",
		"PROGRAM p ; CASE x OF 1 : - 1 , 2 , 3 , 4 , 5 , 6 , 7 , 8 ,",
	} {
		atLimit(t, "unit", ahead, api.Size)
	}
}

// TestSizeNoDecl has tokens with which no declaration begins behind as many as there may be.
func TestSizeNoDecl(t *testing.T) {
	for _, one := range []string{"PROGRAM p ; END_PROGRAM ", "CLASS c ; END_CLASS ", "INTERFACE i ; END_INTERFACE ", "TASK t ( INTERVAL 1 , PRIORITY 0 ) : p ; "} {
		full := times(12, one)
		parsed(t, full)
		going := goOn("unit", strings.Fields(full))
		for _, token := range all {
			expected := api.Syntax
			if going[sort(token)] {
				expected = api.Size
			}
			for _, behind := range []string{"", " 1", " p ;", " " + one} {
				wrong(t, full+token+behind, expected, len(full))
			}
		}
	}
}

// crowds are things of which there are too many, or that are nested too deeply, where they may stand.
var crowds = []string{"1 , 2 , - 3 ,", "1 , 2 , 3 , 4 , 5 , 6 , 7 , - 8 ,", "a , b , c , d ,", "a : INT , b : INT , c : INT ,", "( ( ( (",
	times(8, "VAR v : INT ; "), times(24, "EXIT ; "), times(6, "METHOD m ( ) ; "), times(6, "METHOD m ( ) ; END_METHOD "),
	times(5, "ELSIF a THEN "), times(6, "1 : "), times(4, "WHILE a DO "), times(12, "PROGRAM p ; END_PROGRAM ")}

// crowd puts some of these into tokens, where a list may go on or begin.
func crowd(r *rand.Rand, tokens []string) []string {
	for range r.Intn(4) {
		i := r.Intn(len(tokens))
		for !slices.Contains([]string{"(", ",", ";", "DO", "THEN", "OF", "IMPLEMENTS"}, tokens[i]) {
			i = (i + 1) % len(tokens)
		}
		tokens = slices.Insert(tokens, i+1, strings.Fields(crowds[r.Intn(len(crowds))])...)
	}
	return tokens
}

// TestLimitsGoOn holds sources made by chance against the grammar: Syntax stands
// at the first token with which nothing goes on, Deep and Size ahead of it.
func TestLimitsGoOn(t *testing.T) {
	told := map[int]int{}
	for seed := range int64(6000) {
		m := &maker{Rand: rand.New(rand.NewSource(seed)), few: 1 + int(seed%3), deep: 8}
		m.put("PROGRAM p ;")
		m.stmt(1)
		m.put("; END_PROGRAM")
		m.decl()
		m.tokens = crowd(m.Rand, m.tokens)
		if m.maybe() {
			m.tokens = spoil(m.Rand, m.tokens)
		}
		if len(m.tokens) > 300 {
			continue
		}
		src, places := m.written()
		_, _, err := syntax.Parse(src)
		code, at, _ := diag.Find(err)
		told[code]++
		first, ends := stuck("unit", m.tokens)
		place := append(places, len(src))[first]
		good := ends && at == place
		switch code {
		case api.Fine:
			good = !ends
		case api.Deep, api.Size:
			good = at < place && slices.Contains(places, at)
		}
		if !good {
			t.Errorf("P4.2: Parse(%q): %v, but nothing goes on at %d", src, err, place)
		}
	}
	for _, code := range []int{api.Fine, api.Syntax, api.Deep, api.Size} {
		if told[code] < 50 {
			t.Errorf("code %d is told %d times only", code, told[code])
		}
	}
}
