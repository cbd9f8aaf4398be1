package firsts

import "reglet/api"

// set is a set of numbers below its length: whether it has each of them.
type set []bool

// add adds a number, and reports whether it is new.
func (s set) add(n int) bool {
	if s[n] {
		return false
	}
	s[n] = true
	return true
}

// numbers returns what the set has in ascending order.
func (s set) numbers() []int {
	var l []int
	for n, has := range s {
		if has {
			l = append(l, n)
		}
	}
	return l
}

// has reports whether a symbol is a rule of the set.
func (s set) has(x api.Sym) bool { return !x.Token && s[x.N] }

// hasAll reports whether all symbols of a list are rules of the set.
func (s set) hasAll(l []api.Sym) bool {
	for _, x := range l {
		if !s.has(x) {
			return false
		}
	}
	return true
}

// head returns the symbols of a list that come after rules of the set only.
func (s set) head(l []api.Sym) []api.Sym {
	for i, x := range l {
		if !s.has(x) {
			return l[:i+1]
		}
	}
	return l
}
