package syntax

import (
	"errors"
	"slices"

	"governor/api"
	"governor/diag"
)

// What may be wrong where the parser stands.
var (
	errSyntax = errors.New("nothing goes on with this token")
	errDeep   = errors.New("nested too deeply")
	errSize   = errors.New("too many")
)

// parser goes through the tokens of a source. What it reads behind an error
// means nothing: there are no tokens any more then, so that all reading ends.
type parser struct {
	tokens []api.Token // those that are not read yet
	length int         // how long the source is
	wrong  error       // what was wrong first
	at     int         // and where
}

// fail keeps what is wrong where the parser stands, if nothing was wrong ahead
// of it.
func (p *parser) fail(wrong error) {
	if p.wrong != nil {
		return
	}
	p.wrong = wrong
	p.at = p.place()
	p.tokens = nil
}

// end answers the error of what was wrong: to leave tokens unread is wrong, too.
func (p *parser) end() error {
	if len(p.tokens) > 0 {
		p.fail(errSyntax)
	}
	switch {
	case p.wrong == nil:
		return nil
	case errors.Is(p.wrong, errDeep):
		return diag.New(api.Deep, p.at)
	case errors.Is(p.wrong, errSize):
		return diag.New(api.Size, p.at)
	}
	return diag.New(api.Syntax, p.at)
}

// limit fails where one more begins behind as many as there may be. It is asked
// only where one begins: what begins none is not too many, but wrong.
func (p *parser) limit(count, most int) {
	if count >= most {
		p.fail(errSize)
	}
}

// depth fails where what begins, or the end of a list, is nested more than may be.
// It is asked only where there is such a thing.
func (p *parser) depth(nested int) {
	if nested > api.MaxDeep {
		p.fail(errDeep)
	}
}

// place answers where the next token begins: the source's end, if there is none.
func (p *parser) place() int {
	if len(p.tokens) == 0 {
		return p.length
	}
	return p.tokens[0].At
}

// kind answers the next token's kind: 0, if there is none.
func (p *parser) kind() int {
	if len(p.tokens) == 0 {
		return 0
	}
	return p.tokens[0].Kind
}

// text answers the next token's text: the empty one, if there is none.
func (p *parser) text() string {
	if len(p.tokens) == 0 {
		return ""
	}
	return p.tokens[0].Text
}

// is tells whether the next token is that word of the language, or that sign.
func (p *parser) is(text string) bool {
	return p.text() == text
}

// isOne tells whether the next token is one of those.
func (p *parser) isOne(texts ...string) bool {
	return slices.ContainsFunc(texts, p.is)
}

// next goes behind the next token, and answers it.
func (p *parser) next() api.Token {
	token := p.tokens[0]
	p.tokens = p.tokens[1:]
	return token
}

// take goes behind that word of the language, or that sign, if it stands there.
func (p *parser) take(text string) bool {
	if !p.is(text) {
		return false
	}
	p.next()
	return true
}

// expect goes behind words of the language and signs, which must stand there.
func (p *parser) expect(texts ...string) {
	for _, text := range texts {
		if !p.take(text) {
			p.fail(errSyntax)
		}
	}
}

// beginsName tells whether a name stands there.
func (p *parser) beginsName() bool {
	return p.kind() == api.Word
}

// name reads a name.
func (p *parser) name() string {
	if !p.beginsName() {
		p.fail(errSyntax)
		return ""
	}
	return p.next().Text
}

// number reads a number.
func (p *parser) number() int {
	if p.kind() != api.Digit {
		p.fail(errSyntax)
		return 0
	}
	return p.next().N
}

// beginsInt tells whether an int stands there.
func (p *parser) beginsInt() bool {
	return p.kind() == api.Digit || p.is("-")
}

// int reads a number that may have a minus ahead of it.
func (p *parser) int() int {
	if p.take("-") {
		return -p.number()
	}
	return p.number()
}

// several reads one thing at least, and at most so many, with commas between.
func several[T any](p *parser, most int, begins func() bool, read func() T) []T {
	var things []T
	for {
		if begins() {
			p.limit(len(things), most)
		}
		things = append(things, read())
		if !p.take(",") {
			return things
		}
	}
}
