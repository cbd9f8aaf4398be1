package regex

import (
	"slices"

	"reglet/api"
)

// place is an expression that stands in others.
//
// An expression may be nested in itself, and so have no end. The mark is an expression around it, and changes at the depths 1, 2, 4, 8 and so on: what is nested in itself comes upon its mark sooner or later, and nothing else does.
type place struct {
	re, mark *api.Re
	depth    int
}

// Right reports whether r and all expressions in it are valid.
func Right(r api.Re) bool {
	return every(&r, hasForm) && ascends(Text(r))
}

// every reports whether r and all expressions in it are wanted. It is false of an expression that has no end.
func every(r *api.Re, wanted func(*api.Re) bool) bool {
	waiting := []place{{re: r, depth: 1}}
	for len(waiting) > 0 {
		last := len(waiting) - 1
		p := waiting[last]
		waiting = waiting[:last]
		if p.re == p.mark || !wanted(p.re) {
			return false
		}
		if p.depth&(p.depth-1) == 0 {
			p.mark = p.re
		}
		kids := kidsOf(p.re)
		for i := range kids {
			waiting = append(waiting, place{re: &kids[i], mark: p.mark, depth: p.depth + 1})
		}
	}
	return true
}

// hasEnd reports whether r is not nested in itself.
func hasEnd(r *api.Re) bool {
	return every(r, func(*api.Re) bool { return true })
}

// kidsOf returns the kids of r, if its kind has any.
func kidsOf(r *api.Re) []api.Re {
	switch r.Kind {
	case api.None, api.Empty, api.Byte:
		return nil
	}
	return r.Kids
}

// hasForm reports whether r is valid, apart from what is in its kids and from their order.
func hasForm(r *api.Re) bool {
	if isEmpty(r.Set) != (r.Kind != api.Byte) {
		return false
	}
	switch r.Kind {
	case api.None, api.Empty, api.Byte:
		return len(r.Kids) == 0
	case api.Star:
		return len(r.Kids) == 1 && !hasAny(r.Kids, api.None, api.Empty, api.Star)
	case api.Cat:
		return len(r.Kids) >= 2 && !hasAny(r.Kids, api.None, api.Empty, api.Cat)
	case api.Either:
		return len(r.Kids) >= 2 && !hasAny(r.Kids, api.None, api.Either) && !hasSeveralBytes(r.Kids)
	}
	return false
}

// hasSeveralBytes reports whether more than one expression of l is Byte.
func hasSeveralBytes(l []api.Re) bool {
	isByte := func(r api.Re) bool { return r.Kind == api.Byte }
	first := slices.IndexFunc(l, isByte)
	return first >= 0 && slices.ContainsFunc(l[first+1:], isByte)
}

// ascends reports whether the texts of the kids ascend in each Either of a text. It finds them in the text of the whole: if each Either made those of its own, the texts of what is deep would be made again and again.
func ascends(text string) bool {
	type list struct {
		from   int // where the text of the next kid begins
		before string
	}
	var open []list
	for i := range len(text) {
		switch text[i] {
		case '{':
			open = append(open, list{from: i + 1})
		case '|', '}':
			last := len(open) - 1
			kid := text[open[last].from:i]
			if kid <= open[last].before {
				return false
			}
			open[last] = list{from: i + 1, before: kid}
			if text[i] == '}' {
				open = open[:last]
			}
		}
	}
	return true
}
