package deriv_test

import (
	"fmt"
	"math"
	"slices"
	"strings"
	"testing"

	"reglet/api"
	"reglet/deriv"
)

// The kinds but Byte, of which of makes no expression.
const (
	none   = api.None
	empty  = api.Empty
	cat    = api.Cat
	either = api.Either
	star   = api.Star
)

var full = api.Set{math.MaxUint64, math.MaxUint64, math.MaxUint64, math.MaxUint64}

// noKinds are numbers that are no kinds.
var noKinds = []int{-1, -2, -3, -4, -5, 6, 7, 8, 255, 256, 257, 260, -251, 1 << 32, 1<<32 + 1, 1<<32 + 5, math.MaxInt, math.MinInt, math.MinInt + 1, math.MinInt + 5}

// noBytes are numbers that are no bytes.
var noBytes = []int{-1, -2, -64, -97, -159, -256, 256, 257, 353, 512, 1 << 32, 1<<32 + 97, math.MaxInt, math.MinInt, math.MinInt + 97}

func setOf(bytes ...byte) api.Set {
	var s api.Set
	for _, b := range bytes {
		s[b/64] |= 1 << (b % 64)
	}
	return s
}

// inSet asks the words of a set as chapter 1 defines them.
func inSet(s api.Set, b int) bool {
	return b >= 0 && b <= 255 && s[b/64]/(1<<(b%64))%2 == 1
}

func of(kind int, kids ...api.Re) api.Re { return api.Re{Kind: kind, Kids: kids} }

// notation is a short form of expressions, valid or not: 0 and 1 are None and Empty, a letter is a Byte, [abc] a Byte of several, (...) a Cat, {..|..} an Either, and * makes a Star of what is ahead of it.
type notation struct {
	text string
	at   int
}

// re reads an expression in short form.
func re(text string) api.Re {
	n := notation{text: text}
	r := n.item()
	if n.at != len(text) {
		panic(text)
	}
	return r
}

// list reads several expressions in short form, with blanks between them.
func list(text string) []api.Re {
	var l []api.Re
	for _, one := range strings.Fields(text) {
		l = append(l, re(one))
	}
	return l
}

func (n *notation) next() byte {
	n.at++
	return n.text[n.at-1]
}

func (n *notation) comes(c byte) bool { return n.at < len(n.text) && n.text[n.at] == c }

func (n *notation) item() api.Re {
	var r api.Re
	switch c := n.next(); c {
	case '0':
		r = of(none)
	case '1':
		r = of(empty)
	case '[':
		end := n.at + strings.IndexByte(n.text[n.at:], ']')
		r = api.Re{Kind: api.Byte, Set: setOf([]byte(n.text[n.at:end])...)}
		n.at = end + 1
	case '(':
		r = of(cat, n.items(')')...)
	case '{':
		r = of(either, n.items('}')...)
	default:
		r = api.Re{Kind: api.Byte, Set: setOf(c)}
	}
	for n.comes('*') {
		n.at++
		r = of(star, r)
	}
	return r
}

func (n *notation) items(end byte) []api.Re {
	var l []api.Re
	for !n.comes(end) {
		l = append(l, n.item())
		if n.comes('|') {
			n.at++
		}
	}
	n.at++
	return l
}

// same holds two expressions against each other, field by field.
func same(a, b api.Re) bool {
	return a.Kind == b.Kind && a.Set == b.Set && slices.EqualFunc(a.Kids, b.Kids, same)
}

func short(v any) string {
	s := fmt.Sprintf("%v", v)
	if len(s) > 400 {
		s = s[:200] + " .. " + s[len(s)-200:]
	}
	return s
}

// nullable asks whether an expression is nullable.
func nullable(t *testing.T, r api.Re, want bool) {
	t.Helper()
	if deriv.Nullable(r) != want {
		t.Errorf("%s: nullable is %v", short(r), !want)
	}
}

// by asks for a derivative.
func by(t *testing.T, r api.Re, b int, want api.Re) {
	t.Helper()
	if got := deriv.Deriv(r, b); !same(got, want) {
		t.Errorf("%s by %d: %s, want %s", short(r), b, short(got), short(want))
	}
}

// match asks whether an expression matches a string.
func match(t *testing.T, r api.Re, s string, want bool) {
	t.Helper()
	if deriv.Match(r, s) != want {
		t.Errorf("%s, %s: match is %v", short(r), short(fmt.Sprintf("%q", s)), !want)
	}
}

// deep encloses an expression in so many others.
func deep(r api.Re, depth int, around func(api.Re) api.Re) api.Re {
	for range depth {
		r = around(r)
	}
	return r
}

// words calls f with all strings of up to so many letters, the empty one first.
func words(letters string, longest int, f func(string)) {
	f("")
	if longest > 0 {
		for _, c := range []byte(letters) {
			words(letters, longest-1, func(s string) { f(string(c) + s) })
		}
	}
}

// lists calls f with all lists of up to so many of some expressions.
func lists(pool []api.Re, longest int, f func([]api.Re)) {
	var add func(l []api.Re)
	add = func(l []api.Re) {
		f(l)
		for i := 0; i < len(pool) && len(l) < longest; i++ {
			add(append(slices.Clip(l), pool[i]))
		}
	}
	add(nil)
}
