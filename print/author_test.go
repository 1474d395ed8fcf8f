package print_test

import (
	"errors"
	"math/rand"
	"strconv"
	"strings"

	"governor/api"
	"governor/diag"
	"governor/syntax"
)

// author writes sources by chance. A plain one writes as print does: one blank
// between tokens, no brackets, numbers of VARs and ELSEs that change nothing.
type author struct {
	*rand.Rand
	plain bool
}

// source answers a source of which syntax tells a tree, and that tree.
func (a *author) source() (string, api.Unit) {
	for {
		src := a.unit()
		if unit, _, err := syntax.Parse(src); !errors.Is(err, diag.Of(api.Size)) {
			return src, unit
		}
	}
}

func (a *author) maybe() bool { return a.Intn(2) == 0 }

// one answers one of the words of a text.
func (a *author) one(words string) string {
	all := strings.Fields(words)
	return all[a.Intn(len(all))]
}

// some answers text, or nothing.
func (a *author) some(text func() string) string {
	if a.maybe() {
		return text() + " "
	}
	return ""
}

func (a *author) flag(word string) string {
	return a.some(func() string { return word })
}

// many answers texts with that between, at least and at most so many.
func (a *author) many(least, most int, between string, text func() string) string {
	var all []string
	for range least + a.Intn(most-least+1) {
		all = append(all, text())
	}
	return strings.Join(all, between)
}

// rest answers texts, each with a blank behind, at most so many.
func (a *author) rest(most int, text func() string) string {
	return a.many(0, most, "", func() string { return text() + " " })
}

func (a *author) name() string { return a.one("a b c_1 dDD eight8 f xINTx y_END_IF") }

func (a *author) number() string {
	return strconv.Itoa([]int{0, 1, 2, 7, 99, 1000, 32767, 32768}[a.Intn(8)])
}

func (a *author) int() string {
	if a.maybe() {
		return "- 1" + strconv.Itoa(a.Intn(1000))
	}
	return a.number()
}

func (a *author) init() string {
	if n := a.int(); n != "0" || !a.plain {
		return ":= " + n
	}
	return ":= 1"
}

func (a *author) unit() string {
	if a.plain {
		return a.many(0, 8, "", func() string { return a.decl() + "\n" })
	}
	return a.rest(8, a.decl)
}

func (a *author) decl() string {
	switch a.Intn(4) {
	case 0:
		return "INTERFACE " + a.name() + " ; " + a.rest(6, a.signature) + "END_INTERFACE"
	case 1:
		faces := func() string { return "IMPLEMENTS " + a.many(1, 4, " , ", a.name) }
		base := func() string { return "EXTENDS " + a.name() }
		return "CLASS " + a.flag("ABSTRACT") + a.flag("FINAL") + a.name() + " " + a.some(base) + a.some(faces) + "; " +
			a.rest(3, a.variable) + a.rest(3, a.method) + "END_CLASS"
	case 2:
		return "PROGRAM " + a.name() + " ; " + a.rest(8, a.variable) + a.list(1) + "END_PROGRAM"
	}
	return "TASK " + a.name() + " ( INTERVAL " + a.number() + " , PRIORITY " + a.number() + " ) : " + a.name() + " ;"
}

func (a *author) signature() string { return "METHOD " + a.head() }

func (a *author) head() string {
	result := func() string { return ": " + a.typeOf() }
	params := a.many(0, 3, " , ", a.param)
	if params != "" {
		params += " "
	}
	return a.name() + " ( " + params + ") " + a.some(result) + ";"
}

func (a *author) method() string {
	return "METHOD " + a.flag("OVERRIDE") + a.flag("ABSTRACT") + a.flag("FINAL") + a.head() + " " +
		a.rest(2, a.variable) + a.list(1) + "END_METHOD"
}

func (a *author) param() string { return a.name() + " : " + a.typeOf() }

func (a *author) variable() string {
	slot := func() string { return "AT " + a.one("IN OUT") + " " + a.number() }
	return "VAR " + a.param() + " " + a.some(a.init) + a.some(slot) + ";"
}

func (a *author) typeOf() string {
	switch a.Intn(6) {
	case 0:
		return "INT ( " + a.int() + " .. " + a.int() + " )"
	case 1:
		return "ARRAY [ " + a.number() + " ] OF INT"
	case 2:
		return "REF_TO " + a.name()
	case 3:
		return a.name()
	}
	return a.one("INT BOOL TON TOF TP CTU CTD R_TRIG F_TRIG")
}

// list answers the statements of a list that is nested so deep.
func (a *author) list(nested int) string {
	return a.rest(4, func() string { return a.stmt(nested) + " ;" })
}

func (a *author) expr() string { return a.nested(1) }

func (a *author) stmt(nested int) string {
	if nested < 6 && a.Intn(3) == 0 {
		return a.nest(nested + 1)
	}
	switch a.Intn(7) {
	case 0:
		return a.name() + " := " + a.expr()
	case 1:
		return a.name() + " [ " + a.expr() + " ] := " + a.expr()
	case 2:
		return a.name() + " ?= " + a.expr()
	case 3:
		return a.invoke(1)
	case 4:
		return strings.TrimSpace("RETURN " + a.some(a.expr))
	case 5:
		return "EXIT"
	}
	return "STEP " + a.name() + " ( " + a.expr() + " , " + a.expr() + " )"
}

// nest answers a statement whose lists are nested so deep.
func (a *author) nest(nested int) string {
	list := func() string { return a.list(nested) }
	switch a.Intn(4) {
	case 0:
		part := func() string { return a.expr() + " THEN " + list() }
		return "IF " + a.many(1, 4, "ELSIF ", part) + a.otherwise(nested) + "END_IF"
	case 1:
		part := func() string { return a.many(1, 3, " , ", a.int) + " : " + strings.TrimSpace(list()) }
		return "CASE " + a.expr() + " OF " + strings.ReplaceAll(a.rest(4, part), "  ", " ") + a.otherwise(nested) + "END_CASE"
	case 2:
		return "WHILE " + a.expr() + " DO " + list() + "END_WHILE"
	}
	return "FOR " + a.name() + " := " + a.expr() + " TO " + a.expr() + " BY " + a.int() + " DO " + list() + "END_FOR"
}

func (a *author) otherwise(nested int) string {
	list := a.list(nested)
	if a.maybe() || a.plain && list == "" {
		return ""
	}
	return "ELSE " + list
}

// nested answers an expression that is nested so deep.
func (a *author) nested(deep int) string {
	if a.maybe() {
		return a.whole(deep)
	}
	return a.operated(deep)
}

// whole answers one that is an operand alone: in brackets only where they tell nothing.
func (a *author) whole(deep int) string {
	if a.plain {
		return a.simple(deep)
	}
	return a.operand(deep)
}

// operated answers one that has an operator.
func (a *author) operated(deep int) string {
	if a.Intn(3) == 0 {
		return a.one("- NOT") + " " + a.operand(deep)
	}
	return a.operand(deep) + " " + a.one("+ - * / MOD = <> < <= > >= AND OR XOR") + " " + a.operand(deep)
}

func (a *author) operand(deep int) string {
	if deep == 6 || a.Intn(8) > 0 {
		return a.simple(deep)
	}
	if a.plain {
		return "( " + a.operated(deep+1) + " )"
	}
	return "( " + a.nested(deep+1) + " )"
}

// simple answers an operand without brackets around it.
func (a *author) simple(deep int) string {
	if deep < 6 && a.Intn(3) == 0 {
		return a.outer(deep)
	}
	switch a.Intn(4) {
	case 0:
		return a.number()
	case 1:
		return a.one("TRUE FALSE NULL")
	case 2:
		return a.name()
	}
	return a.one("REF DONE COUNT") + " ( " + a.name() + " )"
}

// outer answers an operand that has expressions in it.
func (a *author) outer(deep int) string {
	switch a.Intn(3) {
	case 0:
		return a.name() + " [ " + a.nested(deep+1) + " ]"
	case 1:
		return "AS " + a.name() + " ( " + a.nested(deep+1) + " )"
	}
	return a.invoke(deep)
}

func (a *author) invoke(deep int) string {
	args := a.many(0, 3, " , ", func() string { return a.nested(deep + 1) })
	if args != "" {
		args += " "
	}
	return a.one("a b c_1 THIS SUPER") + " . " + a.name() + " ( " + args + ")"
}
