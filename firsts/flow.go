package firsts

import (
	"slices"

	"reglet/api"
)

// flow is a number of sets of tokens, the end being one more token: some are in a set by themselves, and all that is in a set goes on into others.
type flow struct {
	empty  set // the nullable rules
	end    int
	count  int    // how many sets there are
	firsts int    // which one is the FIRST set of rule 0; those of the others are behind it
	own    []link // from a token to a set that it is in by itself
	onward []link // from a set to another one that contains it
}

// newFlow begins with so many sets.
func newFlow(s api.Syntax, count int) *flow {
	return &flow{empty: nullable(s), end: len(s.Tokens), count: count}
}

// addFirsts adds the FIRST sets of all rules.
func (f *flow) addFirsts(s api.Syntax) {
	f.firsts = f.count
	f.count += len(s.Names)
	for _, p := range s.Prods {
		for _, x := range f.empty.head(p.Right) {
			f.enter(x, f.firsts+p.Left)
		}
	}
}

// enter lets the FIRST set of a symbol go on into a set.
func (f *flow) enter(x api.Sym, into int) {
	if x.Token {
		f.own = append(f.own, link{x.N, into})
	} else {
		f.onward = append(f.onward, link{f.firsts + x.N, into})
	}
}

// addFollows makes the first sets the FOLLOW sets of all rules. In each production it goes back from the end, behind which comes what follows the Left.
func (f *flow) addFollows(s api.Syntax) {
	f.own = append(f.own, link{f.end, 0})
	for _, p := range s.Prods {
		behind := p.Left
		for _, x := range slices.Backward(p.Right) {
			if !x.Token {
				f.onward = append(f.onward, link{behind, x.N})
			}
			behind = f.ahead(x, behind)
		}
	}
}

// ahead adds the set of what comes where a symbol begins, given the set of what comes behind it.
func (f *flow) ahead(x api.Sym, behind int) int {
	into := f.count
	f.count++
	f.enter(x, into)
	if f.empty.has(x) {
		f.onward = append(f.onward, link{behind, into})
	}
	return into
}

// settled returns the first sets, so many of them, as lists in ascending order. The tokens of one word at a time are followed, and only where they come, so that many rules and many tokens don't take a place for each of both.
func (f *flow) settled(count int) [][]int {
	lists := make([][]int, count)
	own, onward := newLinks(f.end+1, f.own), newLinks(f.count, f.onward)
	parts := make(portions, f.count)
	for from := 0; from <= f.end; from += width {
		open := parts.enter(own, from, min(from+width, f.end+1))
		for _, at := range parts.spread(onward, open) {
			if at < count {
				lists[at] = parts.list(lists[at], at, from)
			}
			parts[at] = portion{}
		}
	}
	return lists
}
