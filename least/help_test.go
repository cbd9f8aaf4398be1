package least_test

import (
	"fmt"
	"math/rand/v2"
	"slices"
	"strings"
	"testing"

	"reglet/api"
	"reglet/auto"
	"reglet/least"
)

// of returns the automaton with some successors and tags. Each is a sign: a digit, or - for no successor. Of the classes, the sets of bytes are given that make them.
func of(next, tag string, sets ...string) api.Auto {
	a := api.Auto{Class: classes(sets...), Tag: digits(tag)}
	for _, row := range strings.Fields(next) {
		a.Next = append(a.Next, digits(row))
	}
	return a
}

func digits(text string) []int {
	var l []int
	for _, c := range []byte(text) {
		l = append(l, strings.IndexByte("-0123456789", c)-1)
	}
	return l
}

// classes returns the classes that sets of bytes make: the bytes of none of them have one, and the bytes of each have one.
func classes(sets ...string) [256]int {
	var a [256]int
	of := map[string]int{}
	for b := range a {
		name := ""
		for _, set := range sets {
			name += fmt.Sprint(strings.Contains(set, string([]byte{byte(b)})))
		}
		if _, ok := of[name]; !ok {
			of[name] = len(of)
		}
		a[b] = of[name]
	}
	return a
}

// each returns classes of one byte each.
func each() [256]int {
	var a [256]int
	for b := range a {
		a[b] = b
	}
	return a
}

// rows returns so many states with a successor for so many classes, and without one for now.
func rows(states, classes int) [][]int {
	next := make([][]int, states)
	for s := range next {
		next[s] = slices.Repeat([]int{-1}, classes)
	}
	return next
}

// equal holds two automata against each other.
func equal(a, b api.Auto) bool {
	return a.Class == b.Class && slices.EqualFunc(a.Next, b.Next, slices.Equal) && slices.Equal(a.Tag, b.Tag)
}

// copied returns an automaton in memory of its own.
func copied(a api.Auto) api.Auto {
	a.Tag = slices.Clone(a.Tag)
	a.Next = slices.Clone(a.Next)
	for i := range a.Next {
		a.Next[i] = slices.Clone(a.Next[i])
	}
	return a
}

// told returns the successors, the tags and the first byte of each class of an automaton as a text.
func told(a api.Auto) string {
	var firsts []int
	for b, class := range a.Class {
		if !slices.Contains(a.Class[:b], class) {
			firsts = append(firsts, b)
		}
	}
	s := fmt.Sprint(a.Next, a.Tag, firsts)
	if len(s) > 400 {
		s = s[:200] + " .. " + s[len(s)-200:]
	}
	return s
}

// minimal returns the minimal automaton, of which there must be one.
func minimal(t *testing.T, a api.Auto) api.Auto {
	t.Helper()
	m, e := least.Least(a)
	if e != api.OK {
		t.Fatalf("%s: error %d", told(a), e)
	}
	return m
}

// becomes asks which automaton is the minimal one.
func becomes(t *testing.T, a, want api.Auto) {
	t.Helper()
	if m := minimal(t, a); !equal(m, want) {
		t.Errorf("%s becomes\n%s, want\n%s", told(a), told(m), told(want))
	}
}

// built builds the automaton of expressions.
func built(t *testing.T, l ...api.Re) api.Auto {
	t.Helper()
	a, e := auto.Build(l)
	if e != api.OK {
		t.Fatalf("error %d", e)
	}
	return a
}

// draw draws the same things in each run.
type draw struct{ *rand.Rand }

func newDraw(n uint64) draw { return draw{rand.New(rand.NewPCG(10, n))} }

// auto draws a valid automaton with so many states and classes, and with some tags. Some of its steps lead nowhere, more or less often.
func (d draw) auto(states, classes, tags int) api.Auto {
	a := api.Auto{Class: d.classes(classes), Next: rows(states, classes)}
	gaps, blanks := d.IntN(5), 1+d.IntN(5)
	for _, row := range a.Next {
		for c := range row {
			if d.IntN(5) >= gaps {
				row[c] = d.IntN(states)
			}
		}
		tag := 0
		if d.IntN(blanks) == 0 {
			tag = d.IntN(tags + 1)
		}
		a.Tag = append(a.Tag, tag)
	}
	return a
}

// classes draws so many classes, in the order of the bytes.
func (d draw) classes(classes int) [256]int {
	var a [256]int
	begins := append([]int{0}, d.Perm(255)[:classes-1]...)
	for i := range begins[1:] {
		begins[i+1]++
	}
	slices.Sort(begins)
	known := 0
	for b := range a {
		if slices.Contains(begins, b) {
			a[b] = known
			known++
		} else {
			a[b] = d.IntN(known)
		}
	}
	return a
}
