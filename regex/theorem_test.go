package regex_test

import (
	"slices"
	"testing"

	"reglet/api"
	"reglet/byteset"
	"reglet/regex"
)

// some are expressions, valid and not, of which lists are made.
func some() []api.Re {
	l := list("0 1 a b [ab] [] a* (ab) (ba) {1|a} {(ab)|1} {1|a*} () (a) (0a) (a1) ((ab)a) {} {b} {0|a} {b|a} {{1|a}|b} 1*")
	return append(l, of(6, re("a")), of(star), api.Re{Kind: star, Set: full, Kids: list("a")}, api.Re{Kind: none, Kids: list("a")}, api.Re{Kind: empty, Set: full}, api.Re{Kind: api.Byte, Set: setOf('a'), Kids: list("b")}, of(6))
}

// lists calls f with all lists of up to so many of some expressions.
func lists(pool []api.Re, longest int, f func([]api.Re)) {
	var add func(l []api.Re)
	add = func(l []api.Re) {
		f(l)
		for i := 0; i < len(pool) && len(l) < longest; i++ {
			add(append(slices.Clip(l), pool[i]))
		}
	}
	add(nil)
}

// compare holds a result against the model's.
func compare(t *testing.T, name string, arg any, got, want api.Re) {
	t.Helper()
	if !same(got, want) {
		t.Errorf("%s of %s: %s, want %s", name, short(arg), short(got), short(want))
	}
}

// asModel asks that all functions do with a list what the model does with it.
func asModel(t *testing.T, l []api.Re) {
	t.Helper()
	for _, kind := range []int{star, cat, either} {
		r := of(kind, l...)
		text(t, r, modelText(r))
		right(t, r, modelRight(r))
		compare(t, "Star", r, regex.Star(r), modelStar(r))
	}
	compare(t, "Cat", l, regex.Cat(l), modelCat(l))
	compare(t, "Either", l, regex.Either(l), modelEither(l))
}

// G1 to G6: all short lists of some expressions.
func TestAllLists(t *testing.T) {
	lists(some(), 3, func(l []api.Re) { asModel(t, l) })
}

// G1 to G6: drawn lists.
func TestDrawnLists(t *testing.T) {
	d := newDraw(6)
	for range 5000 {
		asModel(t, d.list(4))
		asModel(t, d.validList(4))
		s := d.set()
		compare(t, "Of", s, regex.Of(s), modelOf(s))
	}
}

// G6: drawn expressions, of which but one thing may be wrong.
func TestRightOfDrawn(t *testing.T) {
	d := newDraw(7)
	count := 0
	for range 20000 {
		r := d.any(2)
		right(t, r, modelRight(r))
		r = of(3+d.IntN(3), d.validList(3)...)
		right(t, r, modelRight(r))
		if modelRight(r) {
			count++
		}
	}
	if count < 500 {
		t.Errorf("of those that were drawn, %d were valid", count)
	}
}

// G7: of valid expressions the functions make valid ones.
func TestMakesValid(t *testing.T) {
	d := newDraw(8)
	for range 10000 {
		l := d.validList(4)
		right(t, regex.Of(d.set()), true)
		right(t, regex.Cat(l), true)
		right(t, regex.Either(l), true)
		right(t, regex.Star(regex.Cat(l)), true)
		right(t, regex.Star(regex.Either(l)), true)
	}
	lists(validPool(), 3, func(l []api.Re) {
		right(t, regex.Cat(l), true)
		right(t, regex.Either(l), true)
	})
	for _, x := range valids {
		right(t, regex.Star(re(x)), true)
	}
}

// G7: what is valid is left as it is.
func TestKeepsValid(t *testing.T) {
	d := newDraw(9)
	for range 10000 {
		r := d.valid(5)
		compare(t, "Cat", r, regex.Cat([]api.Re{r}), r)
		compare(t, "Either", r, regex.Either([]api.Re{r}), r)
		switch r.Kind {
		case api.Byte:
			compare(t, "Of", r, regex.Of(r.Set), r)
		case cat:
			compare(t, "Cat", r.Kids, regex.Cat(r.Kids), r)
		case either:
			compare(t, "Either", r.Kids, regex.Either(r.Kids), r)
		case star:
			compare(t, "Star", r.Kids, regex.Star(r.Kids[0]), r)
		}
	}
}

func validPool() []api.Re {
	return list("0 1 a [bc] a* (ab) (aa) {1|a} {(ab)|a} {1|a*} {(ab)|1|b} {a*|[bc]}")
}

// grouped asks that a function makes the same of three expressions, however they are grouped, and of all of them at once.
func grouped(t *testing.T, name string, join func([]api.Re) api.Re, a, b, c api.Re) {
	t.Helper()
	want := join([]api.Re{a, b, c})
	compare(t, name+", the first two ahead,", []api.Re{a, b, c}, join([]api.Re{join([]api.Re{a, b}), c}), want)
	compare(t, name+", the last two ahead,", []api.Re{a, b, c}, join([]api.Re{a, join([]api.Re{b, c})}), want)
}

// G7: Cat and Either are associative.
func TestAssociative(t *testing.T) {
	pool := validPool()
	for _, a := range pool {
		for _, b := range pool {
			for _, c := range pool {
				grouped(t, "Cat", regex.Cat, a, b, c)
				grouped(t, "Either", regex.Either, a, b, c)
			}
		}
	}
	d := newDraw(10)
	for range 10000 {
		a, b, c := d.valid(3), d.valid(3), d.valid(3)
		grouped(t, "Cat", regex.Cat, a, b, c)
		grouped(t, "Either", regex.Either, a, b, c)
	}
}

// G7: a list is the same as the list of what its parts make.
func TestAssociativeOfLists(t *testing.T) {
	d := newDraw(11)
	for range 5000 {
		l := slices.Concat(d.validList(2), d.validList(2), d.validList(2))
		first := d.IntN(len(l) + 1)
		last := first + d.IntN(len(l)-first+1)
		for name, join := range map[string]func([]api.Re) api.Re{"Cat": regex.Cat, "Either": regex.Either} {
			compare(t, name, l, join(slices.Concat(l[:first], []api.Re{join(l[first:last])}, l[last:])), join(l))
		}
	}
}

// G7: Either is commutative.
func TestCommutative(t *testing.T) {
	pool := validPool()
	for _, a := range pool {
		for _, b := range pool {
			compare(t, "Either", []api.Re{a, b}, regex.Either([]api.Re{b, a}), regex.Either([]api.Re{a, b}))
		}
	}
	d := newDraw(12)
	for range 10000 {
		l := d.validList(4)
		want := regex.Either(slices.Clone(l))
		d.Shuffle(len(l), func(i, j int) { l[i], l[j] = l[j], l[i] })
		compare(t, "Either", l, regex.Either(l), want)
	}
}

// G7: laws of None and Empty, and of the same expression twice.
func TestLaws(t *testing.T) {
	d := newDraw(13)
	for range 5000 {
		r := d.valid(4)
		compare(t, "Cat", r, regex.Cat([]api.Re{of(empty), r}), r)
		compare(t, "Cat", r, regex.Cat([]api.Re{r, of(empty)}), r)
		compare(t, "Cat", r, regex.Cat([]api.Re{of(none), r}), of(none))
		compare(t, "Cat", r, regex.Cat([]api.Re{r, of(none)}), of(none))
		compare(t, "Either", r, regex.Either([]api.Re{r, of(none)}), r)
		compare(t, "Either", r, regex.Either([]api.Re{r, r}), r)
		compare(t, "Star", r, regex.Star(regex.Star(r)), regex.Star(r))
		a, b := d.set(), d.set()
		compare(t, "Either", []api.Set{a, b}, regex.Either([]api.Re{regex.Of(a), regex.Of(b)}), regex.Of(byteset.Join(a, b)))
	}
}
