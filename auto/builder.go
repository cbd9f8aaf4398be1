package auto

import (
	"slices"
	"strconv"

	"reglet/api"
	"reglet/byteset"
	"reglet/deriv"
	"reglet/regex"
)

// none stands for the expression None, which has no number.
const none = -1

// member is one of the expressions for which a state stands: its place among them, and its number.
type member struct{ place, expr int }

// members are what a state stands for. Those that are None, as most are in the end, are left out.
type members []member

// expression is one that has a number. Its derivatives are found once, however many states it stands in.
type expression struct {
	re       api.Re
	nullable bool
	derivs   []int // the number of the derivative by each class; empty until they are asked for
}

// builder holds the states that have been found so far, and the expressions in them, each by its number.
type builder struct {
	classes     [256]int
	firsts      []int // the smallest byte of each class
	exprs       []expression
	exprByText  map[string]int
	states      []members
	stateByText map[string]int
}

// newBuilder returns a builder with the state that stands for l.
func newBuilder(l []api.Re) *builder {
	b := &builder{
		classes:     byteset.Classes(setsOf(l)),
		exprByText:  map[string]int{},
		stateByText: map[string]int{},
	}
	for first, class := range b.classes {
		if class == len(b.firsts) {
			b.firsts = append(b.firsts, first)
		}
	}
	var initial members
	for place, r := range l {
		initial = initial.with(place, b.expr(r))
	}
	b.state(initial)
	return b
}

// setsOf returns the sets in the expressions of l, each of them once: neither how often they stand there nor in which order changes a class. What is left to be visited is a list, since Go's stack ends at some depth, at which an expression need not.
func setsOf(l []api.Re) []api.Set {
	var sets []api.Set
	seen := map[api.Set]struct{}{}
	left := slices.Clone(l)
	for len(left) > 0 {
		last := len(left) - 1
		r := left[last]
		left = append(left[:last], r.Kids...)
		if _, ok := seen[r.Set]; !ok {
			seen[r.Set] = struct{}{}
			sets = append(sets, r.Set)
		}
	}
	return sets
}

// expr returns the number of r, which is that of all expressions with the same text.
func (b *builder) expr(r api.Re) int {
	if r.Kind == api.None {
		return none
	}
	text := regex.Text(r)
	n, ok := b.exprByText[text]
	if !ok {
		n = len(b.exprs)
		b.exprByText[text] = n
		b.exprs = append(b.exprs, expression{re: r, nullable: deriv.Nullable(r)})
	}
	return n
}

// state returns the number of the state that stands for s, which is a new one if none did so far.
func (b *builder) state(s members) int {
	text := s.text()
	n, ok := b.stateByText[text]
	if !ok {
		n = len(b.states)
		b.stateByText[text] = n
		b.states = append(b.states, s)
	}
	return n
}

// derivs returns the numbers of the derivatives of an expression by each class.
func (b *builder) derivs(expr int) []int {
	if e := b.exprs[expr]; len(e.derivs) == 0 {
		for _, first := range b.firsts {
			e.derivs = append(e.derivs, b.expr(deriv.Deriv(e.re, first)))
		}
		b.exprs[expr] = e
	}
	return b.exprs[expr].derivs
}

// derived returns the derivatives of s by a class.
func (b *builder) derived(s members, class int) members {
	var d members
	for _, m := range s {
		d = d.with(m.place, b.derivs(m.expr)[class])
	}
	return d
}

// successors returns the successors by each class of the state that stands for s.
func (b *builder) successors(s members) []int {
	row := make([]int, len(b.firsts))
	for class := range row {
		row[class] = nowhere
		if d := b.derived(s, class); len(d) > 0 {
			row[class] = b.state(d)
		}
	}
	return row
}

// tag returns the tag of the state that stands for s.
func (b *builder) tag(s members) int {
	for _, m := range s {
		if b.exprs[m.expr].nullable {
			return m.place + 1
		}
	}
	return 0
}

// with returns s with one expression more, unless that is None.
func (s members) with(place, expr int) members {
	if expr == none {
		return s
	}
	return append(s, member{place: place, expr: expr})
}

// text returns what only the same members have in common. The expressions are in it by their numbers: their own texts may be long, and would be written again for each state.
func (s members) text() string {
	var text []byte
	for _, m := range s {
		text = strconv.AppendInt(text, int64(m.place), 10)
		text = append(text, ':')
		text = strconv.AppendInt(text, int64(m.expr), 10)
		text = append(text, ' ')
	}
	return string(text)
}
