package firsts

import "math/bits"

// width is how many tokens are followed at a time, as bits of a word.
const width = 64

// portion is which of these tokens are in a set, and which of them have gone on from there.
type portion struct{ has, gone uint64 }

// portions are those of all sets.
type portions []portion

// add adds tokens to a set, and reports whether some have to go on from there now, and none had to before.
func (l portions) add(at int, tokens uint64) bool {
	p := &l[at]
	waits := p.has != p.gone
	p.has |= tokens
	return !waits && p.has != p.gone
}

// enter adds the tokens from one to ahead of another one to the sets that they are in by themselves, and returns the sets from which they have to go on.
func (l portions) enter(own links, from, to int) []int {
	var open []int
	for token := from; token < to; token++ {
		for _, at := range own.of(token) {
			if l.add(at, 1<<(token-from)) {
				open = append(open, at)
			}
		}
	}
	return open
}

// spread lets tokens go on, from the sets that are open, until none has to, and returns all sets to which they have come.
func (l portions) spread(onward links, open []int) []int {
	var reached []int
	settle(open, func(open []int, at int) []int {
		p := &l[at]
		if p.gone == 0 {
			reached = append(reached, at)
		}
		p.gone = p.has
		for _, to := range onward.of(at) {
			if l.add(to, p.gone) {
				open = append(open, to)
			}
		}
		return open
	})
	return reached
}

// list appends the tokens of a set to a list in ascending order. The one of the lowest bit is given.
func (l portions) list(list []int, at, lowest int) []int {
	for has := l[at].has; has != 0; has &= has - 1 {
		list = append(list, lowest+bits.TrailingZeros64(has))
	}
	return list
}
