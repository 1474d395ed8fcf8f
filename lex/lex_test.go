package lex_test

import (
	"errors"
	"reflect"
	"regexp"
	"slices"
	"strconv"
	"strings"
	"sync"
	"testing"

	"governor/api"
	"governor/diag"
	"governor/lex"
)

// keys are the words of the language, as the chapter lists them.
const keys = `INTERFACE END_INTERFACE CLASS END_CLASS PROGRAM END_PROGRAM METHOD END_METHOD TASK INTERVAL PRIORITY
EXTENDS IMPLEMENTS ABSTRACT FINAL OVERRIDE VAR AT IN OUT INT BOOL REAL LREAL ARRAY OF REF_TO REF TON TOF TP CTU CTD
R_TRIG F_TRIG TRUE FALSE NULL THIS SUPER AS NOT AND OR XOR MOD IF THEN ELSIF ELSE END_IF CASE END_CASE WHILE DO
END_WHILE FOR TO BY END_FOR RETURN EXIT STEP DONE COUNT`

// signs are all signs, the longer ones first.
var signs = strings.Fields(`:= ?= .. <> <= >= + - * / = < > ( ) [ ] , ; : .`)

func isKey(s string) bool { return slices.Contains(strings.Fields(keys), s) }

var (
	blank  = regexp.MustCompile(`\A(?:[ \t\n\r]|\(\*(?s:.*?)\*\))`)
	begun  = regexp.MustCompile(`\A\(\*`)
	word   = regexp.MustCompile(`\A[A-Za-z][A-Za-z0-9_]*`)
	digits = regexp.MustCompile(`\A[0-9]+`)
	sign   = regexp.MustCompile(`\A(?::=|\?=|\.\.|<>|<=|>=|[-+*/=<>()\[\],;:.])`)
)

// tokenAt is the token that rest begins with, and the code of what is wrong with it.
func tokenAt(rest string, at int) (api.Token, int) {
	if begun.MatchString(rest) {
		return api.Token{}, api.Lex
	}
	if text := word.FindString(rest); text != "" {
		switch {
		case text == "REAL" || text == "LREAL":
			return api.Token{}, api.Real
		case isKey(text):
			return api.Token{Kind: api.Key, Text: text, At: at}, 0
		case len(text) > 12:
			return api.Token{}, api.Lex
		}
		return api.Token{Kind: api.Word, Text: text, At: at}, 0
	}
	if text := digits.FindString(rest); text != "" {
		n, err := strconv.Atoi(text)
		if err != nil || n > 32768 || len(text) > 5 {
			return api.Token{}, api.Lex
		}
		return api.Token{Kind: api.Digit, Text: text, N: n, At: at}, 0
	}
	if text := sign.FindString(rest); text != "" {
		return api.Token{Kind: api.Sign, Text: text, At: at}, 0
	}
	return api.Token{}, api.Lex
}

// told is what the promise tells of a source: its tokens, or code and place.
func told(src string) ([]api.Token, api.Wrong) {
	if len(src) > 6000 {
		return nil, api.Wrong{Code: api.Size, At: 6000}
	}
	var tokens []api.Token
	for at := 0; at < len(src); {
		if b := blank.FindString(src[at:]); b != "" {
			at += len(b)
			continue
		}
		token, code := tokenAt(src[at:], at)
		if code == 0 && len(tokens) == 1500 {
			code = api.Size
		}
		if code != 0 {
			return nil, api.Wrong{Code: code, At: at}
		}
		tokens = append(tokens, token)
		at += len(token.Text)
	}
	return tokens, api.Wrong{}
}

// short cuts a source for a message.
func short(src string) string {
	if len(src) > 60 {
		return src[:60] + ".."
	}
	return src
}

// hold holds what All answers against what the promise tells.
func hold(t *testing.T, src string) {
	t.Helper()
	want, wrong := told(src)
	got, err := lex.All(src)
	if wrong.Code != 0 {
		fails(t, src, wrong.Code, wrong.At)
		return
	}
	if err != nil {
		t.Errorf("P3.1: All(%q): %v", short(src), err)
	}
	if len(got) != len(want) || len(got) > 0 && !reflect.DeepEqual(got, want) {
		t.Errorf("P3.1: All(%q): %v, not %v", short(src), got, want)
	}
}

// fails asks for no tokens, and an error of that code at that place.
func fails(t *testing.T, src string, code, at int) {
	t.Helper()
	tokens, err := lex.All(src)
	gotCode, gotAt, ok := diag.Find(err)
	if len(tokens) != 0 || !ok || gotCode != code || gotAt != at {
		t.Errorf("P3.1: All(%q): %d tokens, %v; not code %d at %d", short(src), len(tokens), err, code, at)
	}
	if !errors.Is(err, diag.Of(code)) {
		t.Errorf("P3.1: All(%q): its error is not of code %d", short(src), code)
	}
}

func TestExample(t *testing.T) {
	got, err := lex.All("x:=1(*c*);")
	want := []api.Token{
		{Kind: api.Word, Text: "x", At: 0},
		{Kind: api.Sign, Text: ":=", At: 1},
		{Kind: api.Digit, Text: "1", N: 1, At: 3},
		{Kind: api.Sign, Text: ";", At: 9},
	}
	if err != nil || !reflect.DeepEqual(got, want) {
		t.Errorf("P3.1: %v, %v", got, err)
	}
}

func TestKindsAndPlaces(t *testing.T) {
	got, err := lex.All("PROGRAM P ;\n\tx1 := 007 ;\r\nEND_PROGRAM")
	want := []api.Token{
		{Kind: api.Key, Text: "PROGRAM", At: 0},
		{Kind: api.Word, Text: "P", At: 8},
		{Kind: api.Sign, Text: ";", At: 10},
		{Kind: api.Word, Text: "x1", At: 13},
		{Kind: api.Sign, Text: ":=", At: 16},
		{Kind: api.Digit, Text: "007", N: 7, At: 19},
		{Kind: api.Sign, Text: ";", At: 23},
		{Kind: api.Key, Text: "END_PROGRAM", At: 26},
	}
	if err != nil || !reflect.DeepEqual(got, want) {
		t.Errorf("P3.1: %v, %v", got, err)
	}
}

func TestNothingToPart(t *testing.T) {
	for _, src := range []string{"", " ", " \t\r\n", "(**)", "(* a *)(* REAL 99999 ? *)", "(***)", "(*)*)", "(*(*)", "(*\x00\xff*)", strings.Repeat(" ", 6000)} {
		if tokens, err := lex.All(src); len(tokens) != 0 || err != nil {
			t.Errorf("P3.1: All(%q): %v, %v", short(src), tokens, err)
		}
	}
}

func TestIsKey(t *testing.T) {
	for _, s := range strings.Fields(keys) {
		if !lex.IsKey(s) {
			t.Errorf("P3.1: IsKey(%q) is false", s)
		}
		hold(t, s)
		hold(t, s+"_")
		hold(t, s+"0 "+s+"("+s)
		for _, other := range []string{strings.ToLower(s), s[1:], s + s, s + " ", " " + s, s + "_", s + "1"} {
			if lex.IsKey(other) != isKey(other) {
				t.Errorf("P3.1: IsKey(%q) is %v", other, lex.IsKey(other))
			}
			hold(t, other)
		}
	}
	for _, s := range []string{"", "x", "END", "BEGIN", "REF_", "STRING", ":=", "\x00", "END_TASK", "END_VAR", "VAR_INPUT"} {
		if lex.IsKey(s) {
			t.Errorf("P3.1: IsKey(%q) is true", s)
		}
	}
}

func TestSigns(t *testing.T) {
	for _, a := range signs {
		hold(t, a)
		for _, b := range append([]string{"x", "1", " ", "(*c*)", "=", "?"}, signs...) {
			hold(t, a+b)
			hold(t, a+" "+b)
			hold(t, "a"+a+b+"1")
			for _, c := range signs {
				hold(t, a+b+c)
			}
		}
	}
	got, err := lex.All("<>=...:==")
	if texts := textsOf(got); err != nil || texts != "<> = .. . := =" {
		t.Errorf("P3.1: the longer sign, where both could stand: %q, %v", texts, err)
	}
}

func textsOf(tokens []api.Token) string {
	var texts []string
	for _, token := range tokens {
		texts = append(texts, token.Text)
	}
	return strings.Join(texts, " ")
}

func TestBlanksPart(t *testing.T) {
	for src, want := range map[string]string{
		"a(*c*)b": "a b", ":(**)=": ": =", "1(**)2": "1 2", ". .": ". .", "<\n>": "< >", "( *)": "( * )",
		"(*a*)*)": "* )", "(*(*a*)b*)": "b * )", "((*c*))": "( )", "12ab": "12 ab", "a1_b": "a1_b", "1..2": "1 .. 2",
		"a.b": "a . b", "x-1": "x - 1", "iF if": "iF if", "a__": "a__", "(*a*)1(*b*)": "1",
	} {
		tokens, err := lex.All(src)
		if texts := textsOf(tokens); err != nil || texts != want {
			t.Errorf("P3.1: All(%q): %q, %v", src, texts, err)
		}
	}
}

func TestEveryByte(t *testing.T) {
	for c := range 256 {
		b := string([]byte{byte(c)})
		for _, src := range []string{b, "x" + b, b + "x", "1" + b + "1", "(" + b + ")", "(*" + b + "*)", b + "=", b + b, " " + b + " "} {
			hold(t, src)
		}
	}
}

func TestNumbers(t *testing.T) {
	for _, text := range []string{"0", "9", "00000", "00001", "10", "32767", "32768", "09999"} {
		n, _ := strconv.Atoi(text)
		tokens, err := lex.All(text)
		if err != nil || len(tokens) != 1 || tokens[0] != (api.Token{Kind: api.Digit, Text: text, N: n}) {
			t.Errorf("P3.1: All(%q): %v, %v", text, tokens, err)
		}
	}
	for _, text := range []string{"32769", "99999", "000000", "000001", "100000", strings.Repeat("9", 30), strings.Repeat("0", 6000)} {
		fails(t, text, api.Lex, 0)
	}
	fails(t, "x 1 32769 ?", api.Lex, 4)
}

func TestNames(t *testing.T) {
	for _, text := range []string{"a", "Z", "abcdefghijkl", "A23456789_12", "EXTENDS_MORE"} {
		tokens, err := lex.All(text)
		if err != nil || len(tokens) != 1 || tokens[0] != (api.Token{Kind: api.Word, Text: text}) {
			t.Errorf("P3.1: All(%q): %v, %v", text, tokens, err)
		}
	}
	fails(t, " abcdefghijklm", api.Lex, 1)
	fails(t, "END_INTERFACES", api.Lex, 0)
	fails(t, strings.Repeat("x", 6000), api.Lex, 0)
	fails(t, "x _a", api.Lex, 2)
}

func TestReal(t *testing.T) {
	fails(t, "REAL", api.Real, 0)
	fails(t, "VAR x : LREAL ;", api.Real, 8)
	fails(t, "a REAL ? LREAL", api.Real, 2)
	hold(t, "real REALX REAL_ LREAL1 XREAL")
}

func TestCommentsEnd(t *testing.T) {
	for _, src := range []string{"(*", "(*)", "(* *", "(* * )", "(*(**", "(*" + strings.Repeat("*", 5998)} {
		fails(t, src, api.Lex, 0)
	}
	fails(t, "x (* y *) (* z", api.Lex, 10)
}

func TestSourceTooLong(t *testing.T) {
	fails(t, strings.Repeat(" ", 6001), api.Size, 6000)
	fails(t, "?"+strings.Repeat("x", 6000), api.Size, 6000)
	fails(t, strings.Repeat("REAL ", 2000), api.Size, 6000)
	if tokens, err := lex.All(strings.Repeat(" ", 5999) + "x"); err != nil || len(tokens) != 1 || tokens[0].At != 5999 {
		t.Errorf("P3.1: a source of MaxSource bytes: %v, %v", tokens, err)
	}
}

func TestTooManyTokens(t *testing.T) {
	full := strings.Repeat("ab ", 1500)
	if tokens, err := lex.All(full); err != nil || len(tokens) != 1500 {
		t.Errorf("P3.1: MaxTokens: %d, %v", len(tokens), err)
	}
	for _, behind := range []string{"x", ";", "1", "IF", "(*c*) := x", "x ?", "x REAL"} {
		hold(t, full+behind)
	}
	fails(t, full+"  x", api.Size, 4502)
	fails(t, full+"x 99999", api.Size, 4500)
	fails(t, "? "+full+"x", api.Lex, 0)
}

func TestWrongBehindTheLastToken(t *testing.T) {
	full := strings.Repeat("ab ", 1500)
	for src, code := range map[string]int{"?": api.Lex, "(*": api.Lex, "99999": api.Lex, "abcdefghijklm": api.Lex, "REAL": api.Real, "LREAL": api.Real} {
		fails(t, full+src, code, 4500)
	}
}

func TestFirstIsTold(t *testing.T) {
	parts := []string{"REAL", "?", "99999", "abcdefghijklm", "(*", "x", ";", "LREAL"}
	for _, a := range parts {
		for _, b := range parts {
			for _, c := range parts {
				hold(t, a+" "+b+"\n"+c)
			}
		}
	}
}

func TestAnswersAreNew(t *testing.T) {
	const src = "x := 1 ;"
	first, _ := lex.All(src)
	for i := range first {
		first[i] = api.Token{}
	}
	hold(t, src)
}

func TestFromSeveralGoroutines(t *testing.T) {
	var all sync.WaitGroup
	for range 8 {
		all.Go(func() {
			for range 100 {
				hold(t, "CLASS C ; VAR x : INT ( -1 .. 9 ) ; (* c *) END_CLASS ?")
			}
		})
	}
	all.Wait()
}

func FuzzAll(f *testing.F) {
	for _, src := range []string{"x:=1(*c*);", "(*", "REAL", "32769", "a..b<>=", "\xff", strings.Repeat("; ", 1501)} {
		f.Add(src)
	}
	f.Fuzz(func(t *testing.T, src string) {
		hold(t, src)
		if lex.IsKey(src) != isKey(src) {
			t.Errorf("P3.1: IsKey(%q)", src)
		}
	})
}
