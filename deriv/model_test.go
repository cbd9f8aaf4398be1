package deriv_test

import (
	"math/rand/v2"
	"slices"

	"reglet/api"
	"reglet/regex"
)

// What follows is the chapter's promises H1 and H2, and its section 'Words', word for word.

func modelNullable(r api.Re) bool {
	switch r.Kind {
	case empty, star:
		return true
	case cat:
		for _, k := range r.Kids {
			if !modelNullable(k) {
				return false
			}
		}
		return true
	case either:
		for _, k := range r.Kids {
			if modelNullable(k) {
				return true
			}
		}
	}
	return false
}

func modelDeriv(r api.Re, b int) api.Re {
	var l []api.Re
	switch r.Kind {
	case api.Byte:
		if inSet(r.Set, b) {
			return of(empty)
		}
	case either:
		for _, k := range r.Kids {
			l = append(l, modelDeriv(k, b))
		}
		return regex.Either(l)
	case star:
		if len(r.Kids) == 1 {
			return regex.Cat([]api.Re{modelDeriv(r.Kids[0], b), r})
		}
	case cat:
		for i, k := range r.Kids {
			l = append(l, regex.Cat(slices.Concat([]api.Re{modelDeriv(k, b)}, r.Kids[i+1:])))
			if !modelNullable(k) {
				break
			}
		}
		return regex.Either(l)
	}
	return of(none)
}

// derived returns the strings of up to so many of these letters that a valid expression derives.
func derived(r api.Re, letters string, longest int) map[string]bool {
	all := map[string]bool{}
	switch r.Kind {
	case empty:
		all[""] = true
	case api.Byte:
		for _, c := range []byte(letters) {
			if inSet(r.Set, int(c)) && longest > 0 {
				all[string([]byte{c})] = true
			}
		}
	case cat:
		all[""] = true
		for _, k := range r.Kids {
			all = concatenations(all, derived(k, letters, longest), longest)
		}
	case either:
		for _, k := range r.Kids {
			for s := range derived(k, letters, longest) {
				all[s] = true
			}
		}
	case star:
		of, more := derived(r.Kids[0], letters, longest), map[string]bool{"": true}
		for len(more) > len(all) {
			all = more
			more = concatenations(all, of, longest)
			more[""] = true
			for s := range all {
				more[s] = true
			}
		}
	}
	return all
}

func concatenations(a, b map[string]bool, longest int) map[string]bool {
	all := map[string]bool{}
	for first := range a {
		for second := range b {
			if len(first)+len(second) <= longest {
				all[first+second] = true
			}
		}
	}
	return all
}

// derives asks where what a valid expression derives ends in a string: longer ones than derived can list.
func derives(r api.Re, s string) bool {
	return slices.Contains(ends(r, s, []int{0}), len(s))
}

// ends returns where the strings end that begin at one of some places.
func ends(r api.Re, s string, from []int) []int {
	var all []int
	switch r.Kind {
	case empty:
		all = from
	case api.Byte:
		for _, at := range from {
			if at < len(s) && inSet(r.Set, int(s[at])) {
				all = append(all, at+1)
			}
		}
	case cat:
		all = from
		for _, k := range r.Kids {
			all = ends(k, s, all)
		}
	case either:
		for _, k := range r.Kids {
			all = append(all, ends(k, s, from)...)
		}
	case star:
		more := slices.Clone(from)
		for len(more) > len(all) {
			all = more
			more = append(slices.Clone(all), ends(r.Kids[0], s, all)...)
			slices.Sort(more)
			more = slices.Compact(more)
		}
	}
	all = slices.Clone(all)
	slices.Sort(all)
	return slices.Compact(all)
}

// draw draws expressions, the same ones in each run.
type draw struct{ *rand.Rand }

func newDraw(n uint64) draw { return draw{rand.New(rand.NewPCG(8, n))} }

func (d draw) set() api.Set {
	switch d.IntN(12) {
	case 0:
		return setOf()
	case 1:
		return api.Set{d.Uint64(), d.Uint64(), d.Uint64(), d.Uint64()}
	case 2:
		return full
	case 3:
		return setOf(0, 255)
	}
	return setOf([]byte("abcba")[d.IntN(3):][:1+d.IntN(3)]...)
}

// any draws an expression of which nothing is sure, not so many levels deep.
func (d draw) any(depth int) api.Re {
	r := api.Re{Kind: d.IntN(6)}
	if depth == 0 {
		r.Kind = d.IntN(3)
	}
	if d.IntN(30) == 0 {
		r.Kind = noKinds[d.IntN(len(noKinds))]
	}
	if r.Kind == api.Byte || d.IntN(30) == 0 {
		r.Set = d.set()
	}
	if depth > 0 && (r.Kind > api.Byte || d.IntN(30) == 0) {
		r.Kids = d.list(depth)
	}
	if r.Kind == star && len(r.Kids) > 0 && d.IntN(10) > 0 {
		r.Kids = r.Kids[:1]
	}
	return r
}

func (d draw) list(depth int) []api.Re {
	var l []api.Re
	for range d.IntN(5) {
		l = append(l, d.any(depth-1))
	}
	return l
}

// valid draws a valid expression, not so many levels deep.
func (d draw) valid(depth int) api.Re {
	if depth == 0 || d.IntN(8) == 0 {
		switch d.IntN(6) {
		case 0:
			return of(none)
		case 1:
			return of(empty)
		}
		return regex.Of(d.set())
	}
	switch d.IntN(3) {
	case 0:
		return regex.Star(d.valid(depth - 1))
	case 1:
		return regex.Cat(d.validList(depth - 1))
	}
	return regex.Either(d.validList(depth - 1))
}

func (d draw) validList(depth int) []api.Re {
	var l []api.Re
	for range 1 + d.IntN(4) {
		l = append(l, d.valid(depth))
	}
	return l
}

// string draws a string of some letters, and now and then of any byte.
func (d draw) string(longest int) string {
	s := make([]byte, d.IntN(longest+1))
	for i := range s {
		s[i] = "abc"[d.IntN(3)]
		if d.IntN(40) == 0 {
			s[i] = byte(d.IntN(256))
		}
	}
	return string(s)
}
