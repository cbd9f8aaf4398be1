package lexeme

import (
	"reglet/api"
	"reglet/byteset"
	"reglet/regex"
	"reglet/scalar"
	"reglet/sense"
)

// folded returns a Byte for each sign of a text without capital letters: for a small letter, one with the capital letter too.
func folded(text string) []api.Re {
	var l []api.Re
	for _, c := range []byte(text) {
		signs := byteset.Of(int(c), int(c))
		if 'a' <= c && c <= 'z' {
			capital := int(c) - 'a' + 'A'
			signs = byteset.Join(signs, byteset.Of(capital, capital))
		}
		l = append(l, regex.Of(signs))
	}
	return l
}

// numbered returns a Byte for each byte of some numbers, and for a number that has no bytes what derives nothing.
func numbered(numbers []int, utf bool) []api.Re {
	var l []api.Re
	for _, n := range numbers {
		bytes := sense.Bytes(n, utf)
		if len(bytes) == 0 {
			l = append(l, api.Re{Kind: api.None})
		}
		for _, c := range bytes {
			l = append(l, regex.Of(byteset.Of(c, c)))
		}
	}
	return l
}

// spanned returns expressions, of which one or the other derives the bytes of each number from lo to hi.
func spanned(lo, hi int, utf bool) []api.Re {
	if !utf {
		return []api.Re{regex.Of(byteset.Of(lo, hi))}
	}
	var l []api.Re
	for _, sequence := range scalar.Sequences(lo, hi) {
		var parts []api.Re
		for _, r := range sequence {
			parts = append(parts, regex.Of(byteset.Of(r.Lo, r.Hi)))
		}
		l = append(l, regex.Cat(parts))
	}
	return l
}
