package regex_test

import (
	"fmt"
	"math/rand/v2"
	"slices"
	"sort"
	"strings"

	"reglet/api"
)

// What follows is the chapter's promises G1 to G6 word for word.

func modelText(r api.Re) string {
	var texts []string
	switch r.Kind {
	case none:
		return "0"
	case empty:
		return "1"
	case api.Byte:
		return modelSet(r.Set)
	}
	for _, k := range r.Kids {
		texts = append(texts, modelText(k))
	}
	switch r.Kind {
	case star:
		return strings.Join(texts, "") + "*"
	case cat:
		return "(" + strings.Join(texts, "") + ")"
	}
	return "{" + strings.Join(texts, "|") + "}"
}

func modelSet(s api.Set) string {
	if s == setOf('a') {
		return "[97-97]" // often asked for
	}
	var texts []string
	for lo := 0; lo < 256; lo++ {
		hi := lo
		for hi < 256 && inSet(s, hi) {
			hi++
		}
		if hi > lo {
			texts = append(texts, fmt.Sprintf("%d-%d", lo, hi-1))
			lo = hi
		}
	}
	return "[" + strings.Join(texts, ",") + "]"
}

func modelOf(s api.Set) api.Re {
	for b := range 256 {
		if inSet(s, b) {
			return api.Re{Kind: api.Byte, Set: s}
		}
	}
	return api.Re{Kind: none}
}

func modelCat(l []api.Re) api.Re {
	var kids []api.Re
	for _, r := range replaced(l, cat) {
		switch r.Kind {
		case none:
			return api.Re{Kind: none}
		case empty:
		default:
			kids = append(kids, r)
		}
	}
	return remaining(kids, empty, cat)
}

func modelEither(l []api.Re) api.Re {
	texts := map[string]api.Re{}
	var bytes []byte
	for _, r := range replaced(l, either) {
		if r.Kind == api.Byte {
			for b := range 256 {
				if inSet(r.Set, b) {
					bytes = append(bytes, byte(b))
				}
			}
		} else if _, ok := texts[modelText(r)]; !ok && r.Kind != none {
			texts[modelText(r)] = r
		}
	}
	if len(bytes) > 0 {
		r := api.Re{Kind: api.Byte, Set: setOf(bytes...)}
		texts[modelText(r)] = r
	}
	var order []string
	for s := range texts {
		order = append(order, s)
	}
	sort.Strings(order)
	var kids []api.Re
	for _, s := range order {
		kids = append(kids, texts[s])
	}
	return remaining(kids, none, either)
}

func modelStar(r api.Re) api.Re {
	switch r.Kind {
	case none, empty:
		return api.Re{Kind: empty}
	case star:
		return r
	}
	return api.Re{Kind: star, Kids: []api.Re{r}}
}

func modelRight(r api.Re) bool {
	for _, k := range r.Kids {
		if !modelRight(k) {
			return false
		}
	}
	if r.Kind != api.Byte && r.Set != setOf() {
		return false
	}
	switch r.Kind {
	case none, empty:
		return len(r.Kids) == 0
	case api.Byte:
		return len(r.Kids) == 0 && r.Set != setOf()
	case star:
		return len(r.Kids) == 1 && same(modelStar(r.Kids[0]), r)
	case cat:
		return len(r.Kids) >= 2 && same(modelCat(r.Kids), r)
	case either:
		return len(r.Kids) >= 2 && same(modelEither(r.Kids), r)
	}
	return false
}

// replaced puts the kids of each expression of a kind in its place.
func replaced(l []api.Re, kind int) []api.Re {
	l = slices.Clone(l)
	for i := len(l) - 1; i >= 0; i-- {
		if l[i].Kind == kind {
			l = slices.Replace(l, i, i+1, l[i].Kids...)
		}
	}
	return l
}

func remaining(kids []api.Re, ofNone, kind int) api.Re {
	if len(kids) == 0 {
		return api.Re{Kind: ofNone}
	}
	if len(kids) == 1 {
		return kids[0]
	}
	return api.Re{Kind: kind, Kids: kids}
}

// draw draws expressions, the same ones in each run.
type draw struct{ *rand.Rand }

func newDraw(n uint64) draw { return draw{rand.New(rand.NewPCG(7, n))} }

func (d draw) set() api.Set {
	switch d.IntN(8) {
	case 0:
		return setOf()
	case 1:
		return api.Set{d.Uint64(), d.Uint64(), d.Uint64(), d.Uint64()}
	case 2:
		return api.Set{d.Uint64() & d.Uint64() & d.Uint64(), 0, 0, d.Uint64() | d.Uint64()}
	case 3:
		return full
	}
	return setOf([]byte("abcd\x00\xff")[:1+d.IntN(6)]...)
}

// any draws an expression of which nothing is sure, not so many levels deep.
func (d draw) any(depth int) api.Re {
	r := api.Re{Kind: d.IntN(6)}
	if depth == 0 {
		r.Kind = d.IntN(3)
	}
	if d.IntN(30) == 0 {
		r.Kind = []int{-1, 6, 7, -5, 1 << 40}[d.IntN(5)]
	}
	if r.Kind == api.Byte || d.IntN(30) == 0 {
		r.Set = d.set()
	}
	if depth > 0 && (r.Kind > api.Byte || d.IntN(30) == 0) {
		r.Kids = d.list(depth)
	}
	if r.Kind == star && len(r.Kids) > 0 && d.IntN(10) > 0 {
		r.Kids = r.Kids[:1]
	}
	return r
}

func (d draw) list(depth int) []api.Re {
	var l []api.Re
	for range d.IntN(5) {
		l = append(l, d.any(depth-1))
	}
	return l
}

// valid draws a valid expression, not so many levels deep, by the model.
func (d draw) valid(depth int) api.Re {
	if depth == 0 || d.IntN(8) == 0 {
		return []func() api.Re{func() api.Re { return of(none) }, func() api.Re { return of(empty) }, func() api.Re { return modelOf(d.set()) }, func() api.Re { return modelOf(d.set()) }}[d.IntN(4)]()
	}
	switch d.IntN(3) {
	case 0:
		return modelStar(d.valid(depth - 1))
	case 1:
		return modelCat(d.validList(depth - 1))
	}
	return modelEither(d.validList(depth - 1))
}

func (d draw) validList(depth int) []api.Re {
	var l []api.Re
	for range d.IntN(5) {
		l = append(l, d.valid(depth))
	}
	return l
}
