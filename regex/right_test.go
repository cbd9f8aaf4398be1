package regex_test

import (
	"math"
	"slices"
	"strings"
	"testing"

	"reglet/api"
	"reglet/byteset"
)

// valids are valid expressions, in short form.
var valids = strings.Fields(`0 1 a [abc] [ac] a* [ac]* (ab) (ba) (aa) (abc) (a*b) (aa*) (a*a*) (ab)* (a(bc)*) (a{1|b}) ({1|a}{1|a}) ((ab)*(ab)*)
	{1|a} {1|a*} {1|[ab]} {a|a*} {(ab)|1} {(ab)|(ac)|1|a|a*|b*} {1|a}* {(a{1|b})|1|{1|a}*} {({(ab)|1}c)|1} (a{({1|b}a)|1}) (a(b(cd*)*)*) {(ab)|(ab)*|(abc)}`)

// G6: valid expressions of each kind.
func TestRight(t *testing.T) {
	for _, x := range valids {
		right(t, re(x), true)
		if !modelRight(re(x)) {
			t.Errorf("the model does not take %s", x)
		}
	}
	right(t, api.Re{}, true)
	right(t, api.Re{Kids: []api.Re{}}, true)
	right(t, api.Re{Kind: api.Byte, Set: full, Kids: []api.Re{}}, true)
	for b := range 256 {
		right(t, api.Re{Kind: api.Byte, Set: setOf(byte(b))}, true)
		right(t, api.Re{Kind: api.Byte, Set: byteset.Turned(setOf(byte(b)))}, true)
	}
}

// G6: what is not valid by its own fields or its kids' kinds.
func TestNotRight(t *testing.T) {
	for _, x := range strings.Fields(`[] 0* 1* a** (ab)** []* {}* ()*
		() (a) (0) (1) ((ab)) (a*) (0a) (a0) (1a) (a1) (a1b) (ab0) (ab1) (01) (11) (00) ((ab)c) (a(bc)) (a(bc)d) ((ab)(cd)) (a()) (a{}) (a[])
		{} {a} {0} {1} {{1|a}} {(ab)} {a*} {0|a} {0|1} {1|0} {0|1|a} {1|a|0} {{1|a}|a*} {1|{1|a}} {(ab)|{1|a}} {1|[]} {1|()}
		{a|b} {a|c} {a|a} {1|a|b} {1|a|c} {(ab)|a|b} {a|[bc]} {1|[ab]|[cd]} {a|a*|b} {a|b|b*} {b|b*|[bc]}
		{1|1} {1|1|a} {1|a|a} {1|a*|a*} {(ab)|(ab)} {(ab)|(ab)|1} {1|(ab)|1} {a*|1|a*}
		{a|1} {a*|a} {1|(ab)} {a|(ab)} {1|(ab)|a} {(ab)|a|1} {(ac)|(ab)|1} {(ab)|1|a*|a} {a*|d*} {(ab)*|(ab)} {[bc]*|a} {(abc)|(ab)} {1|{1|a}*|a} {(ab)|(ab)*|(ab)|1}`) {
		right(t, re(x), false)
		if modelRight(re(x)) {
			t.Errorf("the model takes %s", x)
		}
	}
	for _, kind := range []int{-1, -2, 6, 7, 8, 256, 258, 1<<32 + 1, 1<<32 + 2, -1 << 32, math.MaxInt, math.MinInt, math.MinInt + 2} {
		right(t, of(kind), false)
		right(t, of(kind, re("a")), false)
		right(t, of(kind, list("1 a")...), false)
		right(t, api.Re{Kind: kind, Set: full}, false)
	}
}

// spoilt returns a valid expression with one thing spoilt, in all ways, in it and in the expressions in it.
func spoilt(r api.Re) []api.Re {
	l := spoiltHere(r)
	for i, k := range r.Kids {
		for _, wrong := range spoilt(k) {
			l = append(l, withKids(r, slices.Replace(slices.Clone(r.Kids), i, i+1, wrong)))
		}
	}
	return l
}

func withKids(r api.Re, kids []api.Re) api.Re {
	r.Kids = kids
	return r
}

func withSet(r api.Re, s api.Set) api.Re {
	r.Set = s
	return r
}

func withKind(r api.Re, kind int) api.Re {
	r.Kind = kind
	return r
}

func spoiltHere(r api.Re) []api.Re {
	l := []api.Re{withKind(r, -1), withKind(r, 6), withKind(r, r.Kind+256), withKind(r, r.Kind-1<<32), withKind(r, math.MaxInt), withKind(r, math.MinInt)}
	if r.Kind == api.Byte {
		l = append(l, withSet(r, api.Set{}), withKind(r, none), withKind(r, empty))
	} else {
		l = append(l, withSet(r, full), withSet(r, setOf('a')), withSet(r, api.Set{1}), withSet(r, api.Set{0, 1 << 63}), withSet(r, api.Set{0, 0, 1}), withSet(r, api.Set{0, 0, 0, 1 << 63}), withKind(r, api.Byte))
	}
	switch r.Kind {
	case none, empty, api.Byte:
		return append(l, withKids(r, list("a")), withKids(r, list("0")), withKids(r, list("1 a")), withKind(r, star), withKind(r, cat), withKind(r, either))
	case star:
		a := r.Kids[0]
		return append(l, withKids(r, nil), withKids(r, []api.Re{a, a}), withKids(r, []api.Re{a, re("b")}), withKids(r, list("0")), withKids(r, list("1")), withKids(r, []api.Re{r}), withKind(r, cat), withKind(r, either))
	}
	l = append(l, withKids(r, nil), withKids(r, r.Kids[:1]), withKids(r, r.Kids[1:2]), withKind(r, star), withKind(r, none), withKind(r, empty))
	others := []api.Re{of(none), r, {Kind: api.Byte}, of(6), of(star), of(cat), of(either)}
	if r.Kind == cat {
		others = append(others, of(empty), re("(xy)"))
	} else {
		others = append(others, re("{(xy)|1}"))
		for i := range r.Kids {
			again := slices.Clone(r.Kids)
			again[i], again[0] = again[0], again[i]
			if i > 0 {
				l = append(l, withKids(r, again), withKids(r, slices.Insert(slices.Clone(r.Kids), 0, r.Kids[i])))
			}
			l = append(l, withKids(r, slices.Insert(slices.Clone(r.Kids), i, r.Kids[i])), withKids(r, append(slices.Clone(r.Kids), r.Kids[i])))
		}
	}
	for _, k := range others {
		for i := range len(r.Kids) + 1 {
			l = append(l, withKids(r, slices.Insert(slices.Clone(r.Kids), i, k)))
		}
	}
	return l
}

// G6: one thing spoilt makes the whole not valid, wherever it is.
func TestSpoilt(t *testing.T) {
	n := 0
	for _, x := range valids {
		for _, r := range spoilt(re(x)) {
			right(t, r, false)
			n++
		}
	}
	if n < 3000 {
		t.Errorf("%d were asked", n)
	}
	d := newDraw(5)
	for range 300 {
		r := d.valid(4)
		right(t, r, true)
		for _, wrong := range spoilt(r) {
			right(t, wrong, false)
		}
	}
}

// G6: far down in the expression as well.
func TestSpoiltFarDown(t *testing.T) {
	for _, wrong := range []api.Re{re("[]"), re("0*"), re("a**"), of(6), api.Re{Kind: star, Set: full, Kids: list("a")}, api.Re{Kind: api.Byte, Set: full, Kids: list("1")}, re("(a)"), re("(a1)"), re("(a(bc))"), re("{a}"), re("{a|1}"), re("{1|1}"), re("{1|a|b}"), re("{1|{1|a}}")} {
		for _, depth := range []int{1, 2, 3, 10, 100, 3000} {
			for i, around := range arounds {
				right(t, deep(re("a"), depth, around), true)
				r := deep(wrong, depth, around)
				right(t, r, false)
				right(t, of(star, of(cat, re("x"), r)), false)
				if depth < 4 && modelRight(r) {
					t.Errorf("the model takes %v at depth %d in %d", wrong, depth, i)
				}
			}
		}
	}
}

// arounds make a valid expression of a Byte, and of what they have made, again and again.
var arounds = []func(api.Re) api.Re{
	func(r api.Re) api.Re { return of(star, of(cat, re("x"), r)) },
	func(r api.Re) api.Re { return of(star, of(cat, r, re("x"))) },
	func(r api.Re) api.Re { return of(either, of(cat, re("x"), r), re("1")) },
	func(r api.Re) api.Re { return of(either, re("(xy)"), of(cat, r, re("x"), re("x*"))) },
	func(r api.Re) api.Re { return of(star, of(either, re("1"), r)) },
	func(r api.Re) api.Re { return of(star, of(either, re("(xy)"), re("1"), r)) },
}
