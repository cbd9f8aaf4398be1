package least_test

import (
	"slices"
	"testing"

	"reglet/api"
	"reglet/auto"
)

// What follows is the chapter's section 'Words' and its promise K1, word for word.

// model holds an automaton with what K1 asks of its states. No state is the state -1.
type model struct {
	api.Auto
	classes int
}

func newModel(a api.Auto) model { return model{Auto: a, classes: slices.Max(a.Class[:]) + 1} }

func (m model) step(state, class int) int {
	if state < 0 {
		return -1
	}
	return m.Next[state][class]
}

func (m model) tag(state int) int {
	if state < 0 || len(m.Tag) == 0 {
		return 0
	}
	return m.Tag[state]
}

// reached tells the states to which some string leads from a state.
func (m model) reached(from int) []bool {
	reached := make([]bool, len(m.Next))
	var visit func(state int)
	visit = func(state int) {
		if state >= 0 && !reached[state] {
			reached[state] = true
			for class := range m.classes {
				visit(m.step(state, class))
			}
		}
	}
	visit(from)
	return reached
}

// reachesTag tells whether some string leads from a state to a tag.
func (m model) reachesTag(from int) bool {
	for state, ok := range m.reached(from) {
		if ok && m.tag(state) > 0 {
			return true
		}
	}
	return false
}

// apart tells for all states and -1, each one greater by one, whether a string leads from two of them to different tags.
func (m model) apart() [][]bool {
	n := len(m.Next) + 1
	apart := make([][]bool, n)
	for i := range n {
		apart[i] = make([]bool, n)
		for j := range n {
			apart[i][j] = m.tag(i-1) != m.tag(j-1)
		}
	}
	for changed := true; changed; {
		changed = false
		for i := range n {
			for j := range n {
				for class := range m.classes {
					if !apart[i][j] && apart[m.step(i-1, class)+1][m.step(j-1, class)+1] {
						apart[i][j], changed = true, true
					}
				}
			}
		}
	}
	return apart
}

// modelLeast returns the minimal automaton of a valid one.
func modelLeast(a api.Auto) api.Auto {
	m := newModel(a)
	if len(a.Next) == 0 || !m.reachesTag(0) {
		return api.Auto{}
	}
	apart, reached := m.apart(), m.reached(0)
	// Of the states that are equivalent, the first one stands for all; -1 for those from which no string leads to a tag.
	firsts := []int{-1}
	for state := range a.Next {
		first := -1
		if m.reachesTag(state) {
			first = slices.Index(apart[state+1][1:], false)
		}
		firsts = append(firsts, first)
	}
	first := func(state int) int { return firsts[state+1] }
	sameSuccessors := func(one, two int) bool {
		for state := range a.Next {
			if reached[state] && first(state) >= 0 && first(m.step(state, one)) != first(m.step(state, two)) {
				return false
			}
		}
		return true
	}
	least := api.Auto{Class: modelClasses(a.Class, sameSuccessors)}
	classes := slices.Max(least.Class[:]) + 1
	states := []int{first(0)}
	for i := 0; i < len(states); i++ {
		var row []int
		for class := range classes {
			to := first(m.step(states[i], a.Class[slices.Index(least.Class[:], class)]))
			n := slices.Index(states, to)
			if to >= 0 && n < 0 {
				n = len(states)
				states = append(states, to)
			}
			row = append(row, n)
		}
		least.Next = append(least.Next, row)
		least.Tag = append(least.Tag, m.tag(states[i]))
	}
	return least
}

// modelClasses returns the classes of the bytes whose old classes are the same to a function.
func modelClasses(old [256]int, same func(one, two int) bool) [256]int {
	var classes [256]int
	known := 0
	for b := range classes {
		i := slices.IndexFunc(old[:b], func(class int) bool { return class == old[b] })
		if i < 0 {
			i = slices.IndexFunc(old[:b], func(class int) bool { return same(class, old[b]) })
		}
		if i >= 0 {
			classes[b] = classes[i]
		} else {
			classes[b] = known
			known++
		}
	}
	return classes
}

// isMinimal asks all that K1 says of the automaton that Least returns, but which tags its strings have.
func isMinimal(t *testing.T, a api.Auto) {
	t.Helper()
	m := newModel(a)
	if !auto.Right(a) {
		t.Fatalf("not valid: %s", told(a))
	}
	if len(a.Next) == 0 && m.classes != 1 {
		t.Errorf("no states, but %d classes", m.classes)
	}
	apart := m.apart()
	for i := range apart {
		for j := range i {
			if !apart[i][j] {
				t.Errorf("%s: the states %d and %d are equivalent", told(a), i-1, j-1)
			}
		}
	}
	for state := range a.Next {
		if !m.reached(0)[state] || !m.reachesTag(state) {
			t.Errorf("%s: the state %d has no string that leads there, or leads to no tag", told(a), state)
		}
	}
	for one := range m.classes {
		for two := range one {
			if len(a.Next) > 0 && !slices.ContainsFunc(a.Next, func(row []int) bool { return row[one] != row[two] }) {
				t.Errorf("%s: the classes %d and %d are the same", told(a), one, two)
			}
		}
	}
	known := 1
	for _, n := range slices.Concat(a.Next...) {
		if n > known {
			t.Errorf("%s: the state %d comes before the state %d", told(a), n, known)
		}
		known = max(known, n+1)
	}
}

// sameTags asks whether each string has the same tag in two automata, for all pairs of states to which a string leads in them.
func sameTags(t *testing.T, a, b api.Auto) {
	t.Helper()
	tag := func(a api.Auto, state int) int {
		if state < 0 || len(a.Tag) == 0 {
			return 0
		}
		return a.Tag[state]
	}
	pairs := [][2]int{{0, 0}}
	known := map[[2]int]bool{pairs[0]: true}
	for i := 0; i < len(pairs); i++ {
		x, y := pairs[i][0], pairs[i][1]
		if tag(a, x) != tag(b, y) {
			t.Errorf("a string has the tag %d in %s\nand %d in %s", tag(a, x), told(a), tag(b, y), told(b))
			return
		}
		for c := range 256 {
			if to := [2]int{auto.Step(a, x, c), auto.Step(b, y, c)}; !known[to] {
				known[to] = true
				pairs = append(pairs, to)
			}
		}
	}
}

// asModel holds Least against the chapter's words.
func asModel(t *testing.T, a api.Auto) {
	t.Helper()
	becomes(t, a, modelLeast(a))
}

// asPromised asks all of K1 and K2 of the minimal automaton of a valid one.
func asPromised(t *testing.T, a api.Auto) {
	t.Helper()
	m := minimal(t, a)
	isMinimal(t, m)
	sameTags(t, a, m)
	becomes(t, m, m)
}
