package print

import (
	"strconv"
	"strings"
)

// none is written for what is none, and for what is missing.
const none = "?"

// line is the tokens that are written, in order.
type line struct{ tokens []string }

// put writes tokens.
func (l *line) put(tokens ...string) {
	l.tokens = append(l.tokens, tokens...)
}

// flag writes a word, if it is to stand there.
func (l *line) flag(stands bool, word string) {
	if stands {
		l.put(word)
	}
}

// int writes a number: the sign of one below 0 is a token of its own.
func (l *line) int(n int) {
	digits, below := strings.CutPrefix(strconv.Itoa(n), "-")
	l.flag(below, "-")
	l.put(digits)
}

// text answers the tokens with a blank between.
func (l *line) text() string {
	return strings.Join(l.tokens, " ")
}

// parted writes all of a list by what writes one, with commas between.
func parted[T any](l *line, list []T, one func(T)) {
	for i, x := range list {
		l.flag(i > 0, ",")
		one(x)
	}
}

// nth answers what stands at i in a list: nothing, where that is too short.
func nth[T any](list []T, i int) T {
	if i < len(list) {
		return list[i]
	}
	var nothing T
	return nothing
}
