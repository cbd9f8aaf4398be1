package least

import (
	"slices"

	"reglet/api"
)

// whole is a valid automaton with a state more, the last one, to which all steps lead that lead nowhere. States from which no string leads to a tag are equivalent to it, and need no care of their own.
type whole struct {
	api.Auto
	classes int
	sink    int
}

func newWhole(a api.Auto) whole {
	return whole{Auto: a, classes: slices.Max(a.Class[:]) + 1, sink: len(a.Next)}
}

// states returns how many states there are, with the one more.
func (w *whole) states() int { return w.sink + 1 }

// leads returns the state to which a state leads by a class.
func (w *whole) leads(state, class int) int {
	if state == w.sink || w.Next[state][class] == nowhere {
		return w.sink
	}
	return w.Next[state][class]
}

// tag returns the tag of a state.
func (w *whole) tag(state int) int {
	if state == w.sink {
		return 0
	}
	return w.Tag[state]
}
