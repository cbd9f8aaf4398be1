package regex_test

import (
	"fmt"
	"math"
	"slices"
	"strings"
	"testing"

	"reglet/api"
	"reglet/regex"
)

// The kinds but Byte, which of makes no expression of.
const (
	none   = api.None
	empty  = api.Empty
	cat    = api.Cat
	either = api.Either
	star   = api.Star
)

var full = api.Set{math.MaxUint64, math.MaxUint64, math.MaxUint64, math.MaxUint64}

func setOf(bytes ...byte) api.Set {
	var s api.Set
	for _, b := range bytes {
		s[b/64] |= 1 << (b % 64)
	}
	return s
}

// inSet asks the words of a set as chapter 1 defines them.
func inSet(s api.Set, b int) bool {
	return s[b/64]/(1<<(b%64))%2 == 1
}

func of(kind int, kids ...api.Re) api.Re { return api.Re{Kind: kind, Kids: kids} }

// notation is a short form of expressions, valid or not: 0 and 1 are None and Empty, a letter is a Byte, [abc] a Byte of several, (...) a Cat, {..|..} an Either, and * makes a Star of what is ahead of it.
type notation struct {
	text string
	at   int
}

// re reads an expression in short form.
func re(text string) api.Re {
	n := notation{text: text}
	r := n.item()
	if n.at != len(text) {
		panic(text)
	}
	return r
}

// list reads several expressions in short form, with blanks between them.
func list(text string) []api.Re {
	var l []api.Re
	for _, one := range strings.Fields(text) {
		l = append(l, re(one))
	}
	return l
}

func (n *notation) next() byte {
	n.at++
	return n.text[n.at-1]
}

func (n *notation) comes(c byte) bool { return n.at < len(n.text) && n.text[n.at] == c }

func (n *notation) item() api.Re {
	var r api.Re
	switch c := n.next(); c {
	case '0':
		r = of(none)
	case '1':
		r = of(empty)
	case '[':
		end := n.at + strings.IndexByte(n.text[n.at:], ']')
		r = api.Re{Kind: api.Byte, Set: setOf([]byte(n.text[n.at:end])...)}
		n.at = end + 1
	case '(':
		r = of(cat, n.items(')')...)
	case '{':
		r = of(either, n.items('}')...)
	default:
		r = api.Re{Kind: api.Byte, Set: setOf(c)}
	}
	for n.comes('*') {
		n.at++
		r = of(star, r)
	}
	return r
}

func (n *notation) items(end byte) []api.Re {
	var l []api.Re
	for !n.comes(end) {
		l = append(l, n.item())
		if n.comes('|') {
			n.at++
		}
	}
	n.at++
	return l
}

// same holds two expressions against each other, field by field.
func same(a, b api.Re) bool {
	return a.Kind == b.Kind && a.Set == b.Set && slices.EqualFunc(a.Kids, b.Kids, same)
}

func short(v any) string {
	s := fmt.Sprintf("%v", v)
	if len(s) > 400 {
		s = s[:200] + " .. " + s[len(s)-200:]
	}
	return s
}

// text asks for the text of an expression.
func text(t *testing.T, r api.Re, want string) {
	t.Helper()
	if got := regex.Text(r); got != want {
		t.Errorf("%s: text %s, want %s", short(r), short(got), short(want))
	}
}

// is asks that an expression is another one, in short form.
func is(t *testing.T, got api.Re, want string) {
	t.Helper()
	if !same(got, re(want)) {
		t.Errorf("%s, want %s", short(got), want)
	}
}

// right asks whether an expression is valid.
func right(t *testing.T, r api.Re, want bool) {
	t.Helper()
	if regex.Right(r) != want {
		t.Errorf("%s: valid is %v", short(r), !want)
	}
}

// deep encloses an expression in so many others.
func deep(r api.Re, depth int, around func(api.Re) api.Re) api.Re {
	for range depth {
		r = around(r)
	}
	return r
}

// orders calls f with all orders of a list.
func orders(l []api.Re, f func([]api.Re)) {
	var choose func(chosen, left []api.Re)
	choose = func(chosen, left []api.Re) {
		if len(left) == 0 {
			f(chosen)
		}
		for i := range left {
			choose(append(slices.Clone(chosen), left[i]), slices.Delete(slices.Clone(left), i, i+1))
		}
	}
	choose(nil, l)
}
