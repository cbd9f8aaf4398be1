package firsts_test

import (
	"slices"
	"testing"

	"reglet/api"
	"reglet/firsts"
)

// chain returns so many rules, of which each becomes the next one, and the last one becomes symbols.
func chain(length, tokens int, last ...api.Sym) api.Syntax {
	s := numbered(length, tokens)
	for i := range length - 1 {
		s.Prods = append(s.Prods, prod(i, non(i+1)))
	}
	s.Prods = append(s.Prods, prod(length-1, last...))
	return s
}

// turned returns a syntax with its productions in the order from the last one on.
func turned(s api.Syntax) api.Syntax {
	s.Prods = slices.Clone(s.Prods)
	slices.Reverse(s.Prods)
	return s
}

// allOf tells whether all lists but the first ones, so many, are one list.
func allOf(lists [][]int, but int, want ...int) bool {
	return !slices.ContainsFunc(lists[but:], func(l []int) bool { return !slices.Equal(l, want) })
}

// R1: chains of rules, whatever they end with, and in whatever order they stand, take linear time and no depth.
func TestLongChains(t *testing.T) {
	const length = 300000
	for _, turn := range []func(api.Syntax) api.Syntax{turned, func(s api.Syntax) api.Syntax { return s }} {
		s := turn(chain(length, 2, tok(1)))
		if slices.Contains(firsts.Empty(s), true) || slices.Contains(firsts.Useful(s), false) || !allOf(firsts.First(s), 0, 1) || !allOf(firsts.Follow(s), 0, 2) {
			t.Error("a chain that ends with a token")
		}
		if l, all := firsts.Of(s, []api.Sym{non(0)}); !slices.Equal(l, []int{1}) || all {
			t.Errorf("%v, %v", l, all)
		}
		s = turn(chain(length, 2))
		if slices.Contains(firsts.Empty(s), false) || slices.Contains(firsts.Useful(s), false) || !allOf(firsts.First(s), 0) || !allOf(firsts.Follow(s), 0, 2) {
			t.Error("a chain that ends with nothing")
		}
		if l, all := firsts.Of(s, []api.Sym{non(7), tok(0), non(1)}); !slices.Equal(l, []int{0}) || all {
			t.Errorf("%v, %v", l, all)
		}
		s = turn(chain(length, 2, non(0)))
		if slices.Contains(firsts.Empty(s), true) || slices.Contains(firsts.Useful(s), true) || !allOf(firsts.First(s), 0) || !allOf(firsts.Follow(s), 0, 2) {
			t.Error("a chain that ends with its beginning")
		}
		s = turn(chain(length, 2, non(0), tok(0)))
		if !allOf(firsts.First(s), 0) || !allOf(firsts.Follow(s), 0, 0, 2) {
			t.Error("a chain that ends with its beginning and a token")
		}
	}
}

// R1: one production with very many symbols takes linear time, also if they are nullable.
func TestLongProductions(t *testing.T) {
	long := func(x api.Sym, length int) api.Syntax {
		right := append(slices.Repeat([]api.Sym{x}, length), non(2), tok(1))
		return numbered(3, 3, prod(0, right...), prod(1), prod(1, tok(2)), prod(2, tok(0)))
	}
	for _, x := range []api.Sym{non(0), non(1), tok(0)} {
		for _, length := range []int{0, 1, 63, 64, 65, 1000} {
			agrees(t, long(x, length), []api.Sym{non(0)})
		}
		few, s := long(x, 1000), long(x, 1000000)
		if was, got := ask(few, few.Prods[0].Right), ask(s, s.Prods[0].Right); !got.same(was) {
			t.Errorf("%+v, want %+v", got, was)
		}
		if was, got := ask(few, few.Prods[0].Right[:900]), ask(s, s.Prods[0].Right[:900000]); !got.same(was) {
			t.Errorf("%+v, want %+v", got, was)
		}
	}
}

// R1: what many rules and many tokens take is what the sets have, not a place for each rule and token.
func TestManyRulesAndTokens(t *testing.T) {
	const count = 300000
	s := numbered(count, count)
	if !allOf(firsts.First(s), 0) || !allOf(firsts.Follow(s), 1) || !slices.Equal(firsts.Follow(s)[0], []int{count}) {
		t.Error("no productions")
	}
	for i := range count {
		s.Prods = append(s.Prods, prod(i, tok(count-1-i), non((i+1)%count), tok(i)))
	}
	for i, l := range firsts.First(s) {
		if !slices.Equal(l, []int{count - 1 - i}) {
			t.Fatalf("First: rule %d: %v", i, l)
		}
	}
	for i, l := range firsts.Follow(s) {
		if want := []int{i - 1}; i > 0 && !slices.Equal(l, want) {
			t.Fatalf("Follow: rule %d: %v", i, l)
		}
	}
}

// R1: as many symbols in each production as there may be where syntaxes are built, all of them nullable, with thousands of rules and tokens.
func TestGreatest(t *testing.T) {
	const count = 2000
	s := numbered(count, count)
	var all []int
	for i := range count {
		var right []api.Sym
		for j := i + 1; j < count && j <= i+200; j++ {
			right = append(right, non(j))
		}
		s.Prods = append(s.Prods, prod(i, right...), prod(i), prod(i, tok(i)))
		all = append(all, i)
	}
	for i, l := range firsts.First(s) {
		if !slices.Equal(l, all[i:]) {
			t.Fatalf("First: rule %d: %s", i, short(l))
		}
	}
	follow := append(all[2:], count)
	if got := firsts.Follow(s); !slices.Equal(got[0], []int{count}) || !allOf(got, 1, follow...) {
		t.Errorf("Follow: %s", short(got))
	}
}

// N3: Of asks no more than it needs, so that it can be asked of each production.
func TestManyOf(t *testing.T) {
	s := chain(3000, 1, tok(0))
	for _, p := range s.Prods {
		if l, all := firsts.Of(s, p.Right); !slices.Equal(l, []int{0}) || all {
			t.Errorf("%v, %v", l, all)
		}
	}
}
