package auto_test

import (
	"fmt"
	"math"
	"math/rand/v2"
	"slices"
	"strings"
	"testing"

	"reglet/api"
	"reglet/auto"
	"reglet/regex"
)

var full = api.Set{math.MaxUint64, math.MaxUint64, math.MaxUint64, math.MaxUint64}

// noBytes are numbers that are no bytes.
var noBytes = []int{-1, -2, -97, -159, -256, 256, 257, 353, 512, 1 << 32, 1<<32 + 97, math.MaxInt, math.MinInt, math.MinInt + 97}

// noStates are numbers that are the states of no automaton here.
var noStates = []int{-1, -2, -97, 100000, 1 << 32, 1<<32 + 1, -1 << 32, math.MaxInt, math.MinInt, math.MinInt + 1}

func setOf(bytes ...byte) api.Set {
	var s api.Set
	for _, b := range bytes {
		s[b/64] |= 1 << (b % 64)
	}
	return s
}

// pattern is what is left of a valid expression's everyday form: letters, [..] for one of several, . for any byte, ( ), |, *, + and ?. A ! stands for None, and () for Empty.
type pattern struct{ left string }

// re reads an expression in everyday form.
func re(text string) api.Re {
	p := pattern{left: text}
	r := p.either()
	if p.left != "" {
		panic(text)
	}
	return r
}

// res reads expressions in everyday form, with blanks between them.
func res(texts string) []api.Re {
	var l []api.Re
	for _, text := range strings.Fields(texts) {
		l = append(l, re(text))
	}
	return l
}

// takes passes over what the rest begins with, if it does.
func (p *pattern) takes(begin string) bool {
	rest, ok := strings.CutPrefix(p.left, begin)
	p.left = rest
	return ok
}

func (p *pattern) either() api.Re {
	l := []api.Re{p.cat()}
	for p.takes("|") {
		l = append(l, p.cat())
	}
	return regex.Either(l)
}

func (p *pattern) cat() api.Re {
	var l []api.Re
	for p.left != "" && p.left[0] != '|' && p.left[0] != ')' {
		l = append(l, p.repeated())
	}
	return regex.Cat(l)
}

func (p *pattern) repeated() api.Re {
	r := p.one()
	for {
		switch {
		case p.takes("*"):
			r = regex.Star(r)
		case p.takes("+"):
			r = regex.Cat([]api.Re{r, regex.Star(r)})
		case p.takes("?"):
			r = regex.Either([]api.Re{r, {Kind: api.Empty}})
		default:
			return r
		}
	}
}

func (p *pattern) one() api.Re {
	switch {
	case p.takes("("):
		r := p.either()
		p.takes(")")
		return r
	case p.takes("["):
		bytes, rest, _ := strings.Cut(p.left, "]")
		p.left = rest
		return regex.Of(setOf([]byte(bytes)...))
	case p.takes("."):
		return regex.Of(full)
	case p.takes("!"):
		return api.Re{Kind: api.None}
	}
	b := p.left[0]
	p.left = p.left[1:]
	return regex.Of(setOf(b))
}

// same holds two expressions against each other, field by field.
func same(a, b api.Re) bool {
	return a.Kind == b.Kind && a.Set == b.Set && slices.EqualFunc(a.Kids, b.Kids, same)
}

// equal holds two automata against each other.
func equal(a, b api.Auto) bool {
	return a.Class == b.Class && slices.EqualFunc(a.Next, b.Next, slices.Equal) && slices.Equal(a.Tag, b.Tag)
}

func short(v any) string {
	s := fmt.Sprint(v)
	if len(s) > 400 {
		s = s[:200] + " .. " + s[len(s)-200:]
	}
	return s
}

// build builds an automaton, of which there must be one.
func build(t *testing.T, l []api.Re) api.Auto {
	t.Helper()
	a, e := auto.Build(l)
	if e != api.OK {
		t.Fatalf("%s: error %d", short(l), e)
	}
	return a
}

// fails asks that there is no automaton, but an error.
func fails(t *testing.T, l []api.Re, want api.Errno) {
	t.Helper()
	if a, e := auto.Build(l); e != want || !equal(a, api.Auto{}) {
		t.Errorf("%s: error %d, want %d; %d states", short(l), e, want, len(a.Next))
	}
}

// classes returns the classes that sets of bytes make: the bytes of none of them have one, and the bytes of each have one.
func classes(sets ...string) [256]int {
	var a [256]int
	of := map[string]int{}
	for b := range a {
		name := ""
		for _, set := range sets {
			name += fmt.Sprint(strings.Contains(set, string([]byte{byte(b)})))
		}
		if _, ok := of[name]; !ok {
			of[name] = len(of)
		}
		a[b] = of[name]
	}
	return a
}

// words returns all strings of up to so many letters.
func words(letters string, longest int) []string {
	all := []string{""}
	for i := 0; i < len(all); i++ {
		if len(all[i]) < longest {
			for _, c := range []byte(letters) {
				all = append(all, all[i]+string([]byte{c}))
			}
		}
	}
	return all
}

// draw draws the same things in each run.
type draw struct{ *rand.Rand }

func newDraw(n uint64) draw { return draw{rand.New(rand.NewPCG(9, n))} }

// pattern draws an expression in everyday form, not so many levels deep.
func (d draw) pattern(depth int) string {
	if depth == 0 || d.IntN(6) == 0 {
		return []string{"a", "b", "c", "a", "b", "c", "[ab]", "[bc]", "[ac]", ".", "()", "!"}[d.IntN(12)]
	}
	x, y := d.pattern(depth-1), d.pattern(depth-1)
	switch d.IntN(6) {
	case 0:
		return "(" + x + ")*"
	case 1:
		return "(" + x + ")" + []string{"+", "?"}[d.IntN(2)]
	case 2, 3:
		return "(" + x + "|" + y + ")"
	}
	return x + y
}

// patterns draws up to so many expressions in everyday form.
func (d draw) patterns(most, depth int) []string {
	l := make([]string, d.IntN(most+1))
	for i := range l {
		l[i] = d.pattern(depth)
	}
	return l
}

// string draws a string of some letters, and now and then of any byte.
func (d draw) string(longest int) string {
	s := make([]byte, d.IntN(longest+1))
	for i := range s {
		s[i] = "abc"[d.IntN(3)]
		if d.IntN(30) == 0 {
			s[i] = byte(d.IntN(256))
		}
	}
	return string(s)
}

// auto draws a valid automaton.
func (d draw) auto(states, classes int) api.Auto {
	var a api.Auto
	n := 0
	for b := range a.Class {
		// Letters have classes of their own sooner.
		if b > 0 && n+1 < classes && (b >= 'a' && d.IntN(2) == 0 || d.IntN(100) == 0) {
			n++
			a.Class[b] = n
		} else {
			a.Class[b] = d.IntN(n + 1)
		}
	}
	for range states {
		row := make([]int, n+1)
		for c := range row {
			row[c] = d.IntN(states+1) - 1
		}
		a.Next = append(a.Next, row)
		a.Tag = append(a.Tag, max(0, d.IntN(7)-3))
	}
	return a
}

// wrong draws an automaton of which nothing is sure: a valid one that is changed in some places.
func (d draw) wrong() api.Auto {
	a := d.auto(1+d.IntN(4), 1+d.IntN(4))
	number := func() int {
		if d.IntN(4) == 0 {
			return noStates[d.IntN(len(noStates))]
		}
		return d.IntN(8) - 2
	}
	for range d.IntN(6) {
		state := d.IntN(len(a.Next))
		switch row := a.Next[state]; d.IntN(7) {
		case 0:
			a.Class["abc"[d.IntN(3)]] = number()
		case 1:
			a.Next[state] = row[:d.IntN(len(row)+1)]
		case 2:
			a.Next[state] = append(row, number())
		case 3:
			a.Tag = a.Tag[:d.IntN(len(a.Tag)+1)]
		case 4:
			a.Tag = append(a.Tag, number())
		case 5:
			if len(a.Tag) > 0 {
				a.Tag[d.IntN(len(a.Tag))] = number()
			}
		case 6:
			if len(row) > 0 {
				row[d.IntN(len(row))] = number()
			}
		}
	}
	return a
}
