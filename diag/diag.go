// Package diag makes errors that tell a code and a place. Its chapter: shared/doc/01-diag.md.
package diag

import (
	"errors"
	"strconv"

	"governor/api"
)

// anywhere is the At of an error that stands for its code, whatever the place.
const anywhere = -1

// maxChain is how many errors Chain tells at most.
const maxChain = 100

// Error is an error of a code, at a place, and the error that it wraps, if there is one.
type Error struct {
	Code, At int
	Err      error
}

// Error tells the code and the place, and behind them the text of what is wrapped.
func (e *Error) Error() string {
	return string(appendText(nil, e))
}

// appendText goes along the wrapped errors in a loop: were each one to ask the
// next for its text, a long chain's text would be copied once for each of them.
func appendText(text []byte, e *Error) []byte {
	for e != nil {
		text = append(text, "code "...)
		text = strconv.AppendInt(text, int64(e.Code), 10)
		text = append(text, " at "...)
		text = strconv.AppendInt(text, int64(e.At), 10)
		if e.Err == nil {
			return text
		}
		text = append(text, ": "...)
		next, ok := itself(e.Err)
		if !ok {
			return append(text, textOf(e.Err)...)
		}
		e = next
	}
	return append(text, "fine"...)
}

// textOf answers no text where a stranger's method panics: no call of this
// package may panic, whatever error was wrapped.
func textOf(err error) (text string) {
	defer func() {
		if recover() != nil {
			text = ""
		}
	}()
	return err.Error()
}

// Unwrap answers the error that is wrapped.
func (e *Error) Unwrap() error {
	if e == nil {
		return nil
	}
	return e.Err
}

// Is tells whether target stands for the code, as what Of answers does.
func (e *Error) Is(target error) bool {
	if e == nil {
		return false
	}
	t, ok := itself(target)
	if !ok || t == nil {
		return false
	}
	return t.Code == e.Code && t.At == anywhere && t.Err == nil
}

// New makes an error that wraps none.
func New(code int, at int) error {
	return &Error{Code: code, At: at}
}

// Of makes the error that stands for a code, to be asked for by errors.Is.
func Of(code int) error {
	return &Error{Code: code, At: anywhere}
}

// Wrap makes an error around another one; nil stays nil, so that what went well still did.
func Wrap(err error, code int, at int) error {
	if err == nil {
		return nil
	}
	return &Error{Code: code, At: at, Err: err}
}

// Find tells code and place of the first *Error in err.
func Find(err error) (int, int, bool) {
	e := first(err)
	if e == nil {
		return 0, 0, false
	}
	return e.Code, e.At, true
}

// Chain tells codes and places of the *Errors in err, the outermost one first.
func Chain(err error) []api.Wrong {
	var chain []api.Wrong
	for e := first(err); e != nil && len(chain) < maxChain; e = first(e.Err) {
		chain = append(chain, api.Wrong{Code: e.Code, At: e.At})
	}
	return chain
}

// itself answers err as the *Error that it is (a nil one, too): what err merely
// wraps is not err itself.
func itself(err error) (*Error, bool) {
	e := first(err)
	if err != error(e) {
		return nil, false
	}
	return e, true
}

// first answers the *Error that errors.As finds in err: nil, if there is none,
// if it is a nil one, or if a stranger's method panics on the way to it.
func first(err error) (found *Error) {
	defer func() {
		if recover() != nil {
			found = nil
		}
	}()
	if !errors.As(err, &found) {
		return nil
	}
	return found
}
