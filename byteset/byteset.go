// Package byteset is layer 1: sets of bytes, and the classes into which a list of sets divides the bytes.
package byteset

import (
	"iter"
	"math/bits"

	"reglet/api"
)

const (
	byteCount = 256
	wordBits  = 64
)

// Has reports whether b is a byte that s contains.
func Has(s api.Set, b int) bool {
	return b >= 0 && b < byteCount && s[b/wordBits]>>(b%wordBits)&1 == 1
}

// Of returns the set of the bytes from lo to hi; numbers that are no bytes add nothing to it.
func Of(lo, hi int) api.Set {
	var s api.Set
	// The bounds are cut first: a loop up to the greatest int would not end.
	last := min(hi, byteCount-1)
	for b := max(lo, 0); b <= last; b++ {
		s[b/wordBits] |= 1 << (b % wordBits)
	}
	return s
}

// Join returns the bytes of a and those of b.
func Join(a, b api.Set) api.Set {
	var s api.Set
	for i := range s {
		s[i] = a[i] | b[i]
	}
	return s
}

// Meet returns the bytes that are in a and in b.
func Meet(a, b api.Set) api.Set {
	var s api.Set
	for i := range s {
		s[i] = a[i] & b[i]
	}
	return s
}

// Without returns the bytes of a that are not in b.
func Without(a, b api.Set) api.Set {
	var s api.Set
	for i := range s {
		s[i] = a[i] &^ b[i]
	}
	return s
}

// Turned returns the bytes that are not in a.
func Turned(a api.Set) api.Set {
	var s api.Set
	for i := range s {
		s[i] = ^a[i]
	}
	return s
}

// Count returns how many bytes s contains.
func Count(s api.Set) int {
	n := 0
	for range members(s) {
		n++
	}
	return n
}

// Ranges returns the bytes of s as ranges, ascending and as few as possible.
func Ranges(s api.Set) []api.Range {
	var l []api.Range
	for b := range members(s) {
		last := len(l) - 1
		if last >= 0 && l[last].Hi == b-1 {
			l[last].Hi = b
		} else {
			l = append(l, api.Range{Lo: b, Hi: b})
		}
	}
	return l
}

// Classes returns the class of each byte: bytes that the same sets of l contain have the same class.
func Classes(l []api.Set) [256]int {
	var classes [256]int
	known := map[string]int{}
	for b := range byteCount {
		k := key(l, b)
		class, ok := known[k]
		if !ok {
			class = len(known)
			known[k] = class
		}
		classes[b] = class
	}
	return classes
}

// members yields the bytes of s in ascending order.
func members(s api.Set) iter.Seq[int] {
	return func(yield func(int) bool) {
		for i, word := range s {
			// Each time, the lowest bit that is left falls away.
			for ; word != 0; word &= word - 1 {
				if !yield(i*wordBits + bits.TrailingZeros64(word)) {
					return
				}
			}
		}
	}
}

// key tells which sets of l contain b. It has a bit for each set, so that all the keys of a list take no more memory than the list.
func key(l []api.Set, b int) string {
	marks := make([]byte, (len(l)+7)/8)
	for i, s := range l {
		if Has(s, b) {
			marks[i/8] |= 1 << (i % 8)
		}
	}
	return string(marks)
}
