package auto_test

import (
	"slices"

	"reglet/api"
	"reglet/auto"
	"reglet/byteset"
	"reglet/deriv"
	"reglet/regex"
)

// What follows is the chapter's promises J1, J3 and J4, word for word.

func modelBuild(l []api.Re) (api.Auto, api.Errno) {
	var sets []api.Set
	for _, r := range l {
		if !regex.Right(r) {
			return api.Auto{}, api.ErrArg
		}
		sets = append(sets, modelSets(r)...)
	}
	a := api.Auto{Class: byteset.Classes(sets)}
	states := [][]api.Re{l}
	for i := 0; i < len(states); i++ {
		a.Tag = append(a.Tag, slices.IndexFunc(states[i], deriv.Nullable)+1)
		var row []int
		for class := range slices.Max(a.Class[:]) + 1 {
			derivs := modelDerivs(states[i], slices.Index(a.Class[:], class))
			n := slices.IndexFunc(states, func(s []api.Re) bool { return slices.EqualFunc(s, derivs, same) })
			if !slices.ContainsFunc(derivs, isSome) {
				n = -1
			} else if n < 0 {
				n = len(states)
				states = append(states, derivs)
			}
			if len(states) > 2000 {
				return api.Auto{}, api.ErrLong
			}
			row = append(row, n)
		}
		a.Next = append(a.Next, row)
	}
	return a, api.OK
}

func modelSets(r api.Re) []api.Set {
	sets := []api.Set{r.Set}
	for _, k := range r.Kids {
		sets = append(sets, modelSets(k)...)
	}
	return sets
}

func modelDerivs(l []api.Re, b int) []api.Re {
	var derivs []api.Re
	for _, r := range l {
		derivs = append(derivs, deriv.Deriv(r, b))
	}
	return derivs
}

func isSome(r api.Re) bool { return r.Kind != api.None }

func modelLongest(a api.Auto, s string, at int) (int, int) {
	length, tag := -1, 0
	if at >= 0 && at <= len(s) {
		for end := at; end <= len(s); end++ {
			if reached := modelTag(a, s[at:end]); reached > 0 {
				length, tag = end-at, reached
			}
		}
	}
	return length, tag
}

// modelTag returns the tag of the state to which a string leads, or 0 if a state on the way has no entry in Tag.
func modelTag(a api.Auto, s string) int {
	tag, state := 0, 0
	for i := range len(s) + 1 {
		if state < 0 || state >= len(a.Tag) {
			return 0
		}
		tag = a.Tag[state]
		if i < len(s) {
			state = auto.Step(a, state, int(s[i]))
		}
	}
	return tag
}

func modelRight(a api.Auto) bool {
	if len(a.Tag) != len(a.Next) {
		return false
	}
	for _, tag := range a.Tag {
		if tag < 0 {
			return false
		}
	}
	if a.Class[0] != 0 {
		return false
	}
	for b := 1; b < 256; b++ {
		if a.Class[b] < 0 || a.Class[b]-1 > slices.Max(a.Class[:b]) {
			return false
		}
	}
	for _, row := range a.Next {
		if len(row) != slices.Max(a.Class[:])+1 {
			return false
		}
		for _, n := range row {
			if n < -1 || n > len(a.Next)-1 {
				return false
			}
		}
	}
	return true
}
