package regex_test

import (
	"fmt"
	"math"
	"runtime/debug"
	"slices"
	"strings"
	"sync"
	"testing"

	"reglet/api"
	"reglet/regex"
)

// R1: any kind with any set and any kids has an answer.
func TestWrong(t *testing.T) {
	kinds := []int{math.MinInt, -1 << 32, -3, -1, 0, 1, 2, 3, 4, 5, 6, 7, 258, 1<<32 + 3, math.MaxInt}
	var l []api.Re
	for _, kind := range kinds {
		for _, s := range []api.Set{{}, setOf('a'), full} {
			for _, kids := range [][]api.Re{nil, {}, {{}}, list("a"), list("1"), list("a 0"), list("b a"), list("(ab) {1|a} a*"), {of(-1), of(9)}} {
				l = append(l, api.Re{Kind: kind, Set: s, Kids: kids})
			}
		}
	}
	for _, a := range l {
		asModel(t, []api.Re{a})
		for _, b := range []api.Re{re("a"), re("1"), of(6), re("(ab)"), re("{b|1}"), l[0], l[len(l)/2], l[len(l)-1]} {
			asModel(t, []api.Re{a, b})
			asModel(t, []api.Re{b, a, b})
		}
	}
}

// R1: how deep an expression is is not bounded by Go's stack.
func TestDeeperThanStack(t *testing.T) {
	defer debug.SetMaxStack(debug.SetMaxStack(8 << 20))
	x := re("x")
	const b = "[120-120]"
	for _, n := range []int{2, 9998, 9999, 10000, 10001, 20000, 40000} {
		for _, form := range []struct {
			around     func(api.Re) api.Re
			begin, end string
		}{
			{around: func(r api.Re) api.Re { return of(star, r) }, end: "*"},
			{around: func(r api.Re) api.Re { return of(star, x, r, x, x) }, begin: b, end: b + b + "*"},
			{around: func(r api.Re) api.Re { return of(cat, r) }, begin: "(", end: ")"},
			{around: func(r api.Re) api.Re { return of(cat, x, r) }, begin: "(" + b, end: ")"},
			{around: func(r api.Re) api.Re { return of(cat, r, x, of(cat, x)) }, begin: "(", end: b + "(" + b + "))"},
			{around: func(r api.Re) api.Re { return of(either, r) }, begin: "{", end: "}"},
			{around: func(r api.Re) api.Re { return of(either, x, r) }, begin: "{" + b + "|", end: "}"},
			{around: func(r api.Re) api.Re { return of(either, r, x) }, begin: "{", end: "|" + b + "}"},
			{around: func(r api.Re) api.Re { return of(-7, of(either), r, of(9), x) }, begin: "{{}|", end: "|{}|" + b + "}"},
		} {
			r := deep(of(empty), n, form.around)
			text(t, r, strings.Repeat(form.begin, n)+"1"+strings.Repeat(form.end, n))
			right(t, r, false)
			regex.Cat([]api.Re{r, x, of(cat, r)})
			regex.Either([]api.Re{r, x, of(either, r)})
			regex.Star(r)
		}
	}
}

// G6: also deep expressions are valid, and are not if what is deepest is spoilt.
func TestRightDeeperThanStack(t *testing.T) {
	defer debug.SetMaxStack(debug.SetMaxStack(8 << 20))
	for _, around := range arounds {
		for _, n := range []int{4999, 5000, 30000} {
			r := deep(re("a"), n, around)
			right(t, r, true)
			right(t, regex.Star(r), true)
			right(t, regex.Cat([]api.Re{r, re("b"), r}), true)
			right(t, regex.Either([]api.Re{r, re("(bb)"), re("b"), r}), true)
			right(t, deep(of(6), n, around), false)
			right(t, deep(re("{a|1}"), n, around), false)
			right(t, deep(re("{1|1}"), n, around), false)
		}
	}
}

// G4: two deep expressions that differ where they are deepest are two, and two that do not are one.
func TestEitherOfDeep(t *testing.T) {
	defer debug.SetMaxStack(debug.SetMaxStack(8 << 20))
	for _, around := range arounds {
		a, b, c := deep(re("a"), 20000, around), deep(re("b"), 20000, around), deep(re("a"), 20000, around)
		a, b, c = regex.Cat([]api.Re{re("q"), a}), regex.Cat([]api.Re{re("q"), b}), regex.Cat([]api.Re{re("q"), c})
		first, second, third := regex.Text(regex.Either([]api.Re{a, b})), regex.Text(regex.Either([]api.Re{b, c, a})), regex.Text(regex.Either([]api.Re{a, c}))
		if first != second || first != "{"+regex.Text(a)+"|"+regex.Text(b)+"}" || third != regex.Text(a) {
			t.Errorf("%s, %s, %s", short(first), short(second), short(third))
		}
	}
}

// R1: lists of any length.
func TestWide(t *testing.T) {
	const n = 300000
	l := slices.Repeat([]api.Re{re("a")}, n)
	text(t, regex.Cat(l), "("+strings.Repeat("[97-97]", n)+")")
	text(t, of(either, l...), "{"+strings.Repeat("[97-97]|", n-1)+"[97-97]}")
	is(t, regex.Either(l), "a")
	right(t, regex.Cat(l), true)
	right(t, of(either, l...), false)
	right(t, regex.Cat(append(l, re("b*"))), true)
	right(t, of(cat, append(l, re("(ab)"))...), false)
	is(t, regex.Cat(append(l, of(none))), "0")
	is(t, regex.Cat(slices.Repeat([]api.Re{of(empty)}, n)), "1")
	is(t, regex.Either(slices.Repeat(list("0 (ab) {1|a*} 1"), n/4)), "{(ab)|1|a*}")
}

// endless returns expressions that are nested in themselves: at one place, at all, and by way of others.
func endless(r api.Re) []api.Re {
	var l []api.Re
	for i := range r.Kids {
		itself := withKids(r, slices.Clone(r.Kids))
		itself.Kids[i] = itself
		around := slices.Clone(r.Kids)
		around[i] = of(cat, re("x"), of(star, of(either, of(empty), withKids(r, around))))
		l = append(l, itself, of(star, itself), of(cat, re("x"), itself), of(either, itself, re("x")), around[i], deep(around[i], 7, arounds[0]))
	}
	all := withKids(r, slices.Clone(r.Kids))
	for i := range all.Kids {
		all.Kids[i] = all
	}
	return append(l, all)
}

// R1: an expression that is nested in itself has no end, but a call has; and it is not valid.
func TestEndless(t *testing.T) {
	for _, r := range []api.Re{re("a*"), re("(ab)"), re("(abc)"), re("{1|a}"), re("{(ab)|1|a|a*}"), of(6, list("a b")...), of(star, list("a b")...)} {
		for _, one := range endless(r) {
			right(t, one, false)
			regex.Text(one)
			for _, l := range [][]api.Re{{one}, {one, one}, {re("a"), one, re("1")}, {of(either, one, one)}, {of(cat, one), one}} {
				regex.Either(l)
				if got := regex.Cat(append(l, of(none))); !same(got, of(none)) {
					t.Errorf("Cat with None: kind %d", got.Kind)
				}
			}
			if got := regex.Star(one); got.Kind != star || len(got.Kids) != len(r.Kids) && len(got.Kids) != 1 {
				t.Errorf("Star of an endless expression: kind %d", got.Kind)
			}
			if got := regex.Cat([]api.Re{re("a*"), of(6, one), re("b")}); got.Kind != cat || len(got.Kids) != 3 || !same(got.Kids[0], re("a*")) || got.Kids[1].Kind != 6 || !same(got.Kids[2], re("b")) {
				t.Errorf("Cat of an endless expression and others: kind %d with %d kids", got.Kind, len(got.Kids))
			}
		}
	}
	// By way of so many others that Go's stack would end.
	defer debug.SetMaxStack(debug.SetMaxStack(8 << 20))
	for _, n := range []int{1, 2, 3, 9999, 200000} {
		for _, kind := range []int{star, cat, either, 6} {
			round := make([]api.Re, n)
			for i := range round {
				round[i] = of(kind, round[(i+1)%n:(i+1)%n+1]...)
			}
			regex.Text(round[0])
			regex.Text(deep(round[0], 12345, arounds[0]))
			regex.Either([]api.Re{round[0], re("a"), round[n-1]})
			right(t, round[0], false)
			right(t, deep(round[0], 12345, arounds[2]), false)
		}
	}
	// By way of so many others that would be valid if one of them were left out.
	for _, n := range []int{1, 2, 3, 4, 10, 1000, 100000} {
		round := make([]api.Re, n)
		for i := range round {
			round[i] = re("(a{(b0)|1})*")
		}
		for i := range round {
			next := &round[i].Kids[0].Kids[1].Kids[0].Kids[1]
			*next = round[(i+1)%n]
		}
		right(t, round[0], false)
		right(t, round[n-1], false)
		regex.Text(round[0])
		round[n/2].Kids[0].Kids[1].Kids[0].Kids[1] = re("c")
		right(t, round[0], true)
		right(t, round[n-1], true)
	}
}

// G1: kids of a kind that has none are not asked for, even without an end.
func TestEndlessAside(t *testing.T) {
	for _, x := range []string{"0", "1", "[ac]"} {
		r := re(x)
		r.Kids = list("a b")
		r.Kids[0], r.Kids[1] = r, r
		text(t, r, regex.Text(re(x)))
		text(t, of(cat, r, re("b"), r), regex.Text(of(cat, re(x), re("b"), re(x))))
		right(t, r, false)
	}
	r := api.Re{Kind: api.Byte, Set: setOf('a'), Kids: list("a")}
	r.Kids[0] = r
	is(t, regex.Either([]api.Re{r, re("b"), r}), "[ab]")
}

// G6: an expression that stands in several places is not nested in itself.
func TestShared(t *testing.T) {
	shared := []api.Re{re("a"), re("(ab)*")}
	for depth := range 70 {
		inner := deep(of(cat, shared...), 2*(depth/2), func(r api.Re) api.Re {
			if r.Kind == cat {
				return of(star, r)
			}
			return of(cat, append([]api.Re{r}, shared...)...)
		})
		r := of(star, of(cat, of(star, inner), of(either, of(star, of(cat, shared...)), of(empty)), re("b"), of(star, inner)))
		right(t, of(cat, r, of(star, of(cat, shared...)), r), true)
		text(t, r, modelText(r))
	}
	r := re("a")
	for range 12 {
		r = of(star, of(cat, r, r))
	}
	right(t, r, true)
	text(t, r, modelText(r))
	// Parts of the same memory, one of them in the other's kids.
	memory := make([]api.Re, 4)
	memory[3] = re("a")
	memory[2] = re("b*")
	memory[1] = of(star, of(cat, memory[2:]...))
	memory[0] = of(star, of(cat, memory[1:]...))
	right(t, of(cat, memory...), true)
	text(t, of(cat, memory...), modelText(of(cat, memory...)))
}

// guarded returns an expression in memory of its own, with one more item behind each list.
func guarded(r api.Re) api.Re {
	r.Kids = guardedList(r.Kids)
	return r
}

func guardedList(l []api.Re) []api.Re {
	var kids []api.Re
	for _, k := range l {
		kids = append(kids, guarded(k))
	}
	return slices.Clip(append(kids, of(-77, re("q"))))[:len(l)]
}

// untouched holds a guarded list against what it was, also behind the ends of the lists in it.
func untouched(l, was []api.Re) bool {
	return slices.EqualFunc(l, was, func(a, b api.Re) bool {
		return a.Kind == b.Kind && a.Set == b.Set && untouched(a.Kids, b.Kids)
	}) && same(l[: len(l)+1 : len(l)+1][len(l)], of(-77, re("q")))
}

// R3: neither a list that is handed in, nor what is in it or behind it, is changed.
func TestMemory(t *testing.T) {
	asked := func(was []api.Re) {
		l := guardedList(was)
		for range 2 {
			for name, join := range map[string]func([]api.Re) api.Re{"Cat": regex.Cat, "Either": regex.Either} {
				got := join(l)
				if want := join(was); !same(got, want) {
					t.Errorf("%s of %s again: %s, want %s", name, short(was), short(got), short(want))
				}
				regex.Text(got)
				regex.Right(got)
				regex.Star(got)
				join([]api.Re{got, re("{1|z}"), got})
				join(got.Kids)
				join(l[:len(l)/2])
			}
		}
		for i := range l {
			regex.Star(l[i])
			regex.Text(l[i])
			regex.Right(l[i])
		}
		if !untouched(l, was) {
			t.Fatalf("%s was changed to %s", short(was), short(l))
		}
	}
	d := newDraw(14)
	for range 3000 {
		asked(d.list(4))
		asked(d.validList(4))
	}
	lists(some(), 2, asked)
}

// R4: an answer hangs on nothing but the arguments: not on earlier calls, nor on calls at the same time.
func TestNoState(t *testing.T) {
	type call struct {
		l                 []api.Re
		cat, either, star api.Re
		text              string
		right             bool
	}
	d := newDraw(15)
	var calls []call
	for range 400 {
		c := call{l: append(d.validList(4), d.any(2))}
		c.cat, c.either, c.star = regex.Cat(c.l), regex.Either(c.l), regex.Star(c.l[0])
		c.text, c.right = regex.Text(c.l[0]), regex.Right(c.l[0])
		calls = append(calls, c)
	}
	var group sync.WaitGroup
	for i := range 8 {
		group.Go(func() {
			for j := range calls {
				c := calls[(j*(2*i+1))%len(calls)]
				if !same(regex.Cat(c.l), c.cat) || !same(regex.Either(c.l), c.either) || !same(regex.Star(c.l[0]), c.star) || regex.Text(c.l[0]) != c.text || regex.Right(c.l[0]) != c.right {
					t.Errorf("%s: another answer", fmt.Sprint(c.l))
				}
			}
		})
	}
	group.Wait()
}
