package reader

import (
	"strings"

	"reglet/api"
)

// reading is how far a text is read: up to the byte at, which is in as many brackets as depth says.
type reading struct {
	text  string
	at    int
	depth int
}

// mismatch is what is panicked with where a text can't be read any further.
type mismatch struct{ errno api.Errno }

func fail(e api.Errno) {
	panic(mismatch{e})
}

// next returns the byte that is read next; at the end it is 0, which no form of the grammar has.
func (r *reading) next() byte {
	if r.at == len(r.text) {
		return 0
	}
	return r.text[r.at]
}

// taken reads the byte c if it is there.
func (r *reading) taken(c byte) bool {
	if r.next() != c {
		return false
	}
	r.at++
	return true
}

// take reads the byte c, which must be there.
func (r *reading) take(c byte) {
	if !r.taken(c) {
		fail(api.ErrForm)
	}
}

// while reads bytes of one kind, as many as there are.
func (r *reading) while(wanted func(byte) bool) string {
	from := r.at
	for wanted(r.next()) {
		r.at++
	}
	return r.text[from:r.at]
}

func (r *reading) name() string {
	s := r.while(isInName)
	if len(s) > api.MaxName {
		fail(api.ErrLong)
	}
	return strings.ToLower(s)
}

// quoted reads a string, and returns what is between its quotes.
func (r *reading) quoted() string {
	r.take('"')
	s := r.while(isInString)
	r.take('"')
	return s
}

// number reads a number that must not be greater than most.
func (r *reading) number(base, most int) int {
	if !isDigit(r.next(), base) {
		fail(api.ErrForm)
	}
	n := 0
	for ; isDigit(r.next(), base); r.at++ {
		// Cut above what is allowed: the digits may be more than an int can hold.
		n = min(n*base+digit(r.next()), most+1)
	}
	if n > most {
		fail(api.ErrLong)
	}
	return n
}

// space reads white space, as much as there is, and reports whether there is any.
func (r *reading) space() bool {
	from := r.at
skipping:
	for {
		switch c := r.next(); {
		case isBlank(c):
			r.at++
		case c == ';' || c == '\r' || c == '\n':
			// A line end is white space only if a blank follows it.
			end := r.behindLineEnd()
			if end < 0 || end == len(r.text) || !isBlank(r.text[end]) {
				break skipping
			}
			r.at = end + 1
		default:
			break skipping
		}
	}
	return r.at > from
}

func (r *reading) emptyLine() {
	r.while(isBlank)
	r.lineEnd()
}

func (r *reading) lineEnd() {
	end := r.behindLineEnd()
	if end < 0 {
		fail(api.ErrForm)
	}
	r.at = end
}

// behindLineEnd returns the place behind the line end that is next, and a number below 0 if none is.
func (r *reading) behindLineEnd() int {
	ahead := *r
	if ahead.taken(';') {
		ahead.while(isInComment)
	}
	if ahead.at == len(ahead.text) || ahead.taken('\n') || ahead.taken('\r') && ahead.taken('\n') {
		return ahead.at
	}
	return -1
}

func isBlank(c byte) bool {
	return c == ' ' || c == '\t'
}

func isLetter(c byte) bool {
	return 'a' <= c && c <= 'z' || 'A' <= c && c <= 'Z'
}

func isDecimal(c byte) bool {
	return isDigit(c, decimal)
}

func isInName(c byte) bool {
	return isLetter(c) || isDecimal(c) || c == '-'
}

func isInString(c byte) bool {
	return ' ' <= c && c <= '~' && c != '"'
}

func isInComment(c byte) bool {
	return isBlank(c) || '!' <= c && c <= '~'
}

// startsRepetition reports whether a concatenation goes on with c.
func startsRepetition(c byte) bool {
	return isLetter(c) || isDecimal(c) || c == '"' || c == '%' || c == '(' || c == '*' || c == '['
}

func isDigit(c byte, base int) bool {
	return digit(c) < base
}

// digit returns what a digit stands for, and for any other byte more than every digit.
func digit(c byte) int {
	switch {
	case '0' <= c && c <= '9':
		return int(c - '0')
	case 'a' <= c && c <= 'f':
		return int(c-'a') + 10
	case 'A' <= c && c <= 'F':
		return int(c-'A') + 10
	}
	return 16
}
