// Package words reads what is written to a gate: names, tuples, rules and questions.
package words

import (
	"strings"
	"unicode/utf8"

	"gatehouse/api"
)

// marks are the runes that part names from one another, so no name has one.
const marks = ":#@=|&()>+-"

// A reader reads a text from its front. Its first failure takes the rest of the text away, so that nothing is read behind it and every loop ends.
type reader struct {
	rest   string
	open   int // brackets
	failed bool
}

func (r *reader) fail() {
	r.rest = ""
	r.failed = true
}

// sees takes the mark away if it is next.
func (r *reader) sees(mark string) bool {
	rest, found := strings.CutPrefix(r.rest, mark)
	r.rest = rest
	return found
}

// must fails if the mark is not next.
func (r *reader) must(mark string) {
	if !r.sees(mark) {
		r.fail()
	}
}

// ended tells whether the whole text was read without a failure.
func (r *reader) ended() bool {
	return r.rest == "" && !r.failed
}

// name stops at the first rune that is one too many, so a text of any length costs little.
func (r *reader) name() string {
	end, runes := len(r.rest), 0
	for at, c := range r.rest {
		if !inName(c) || isBroken(c, r.rest[at:]) {
			end = at
			break
		}
		runes++
		if runes > api.MaxName {
			r.fail()
			return ""
		}
	}
	if runes == 0 {
		r.fail()
		return ""
	}
	name := r.rest[:end]
	r.rest = r.rest[end:]
	return name
}

func inName(c rune) bool {
	return c >= 33 && c != 127 && !strings.ContainsRune(marks, c)
}

// isBroken tells bytes that are not UTF-8 from a U+FFFD that was written out: a range over a string gives the same rune for both.
func isBroken(c rune, text string) bool {
	return c == utf8.RuneError && !strings.HasPrefix(text, string(utf8.RuneError))
}
