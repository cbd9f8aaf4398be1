package grammar_test

import (
	"fmt"
	"runtime/debug"
	"slices"
	"strings"
	"testing"

	"reglet/api"
	"reglet/grammar"
)

// E2: the first rule with a name.
func TestFind(t *testing.T) {
	g := []api.Rule{rule("b", ref("x")), rule("a", ref("y")), rule("b", ref("a")), rule("c-1", fold("")), rule("a", nums(9)), rule("b", ref("b"))}
	for name, want := range map[string]int{
		"b": 0, "a": 1, "c-1": 3, "x": -1, "y": -1, "": -1, "c": -1, "c-": -1, "c-12": -1, "B": -1, "A": -1, " a": -1, "a ": -1, "ab": -1, "a\x00": -1, "digit": -1, strings.Repeat("a", 41): -1,
	} {
		if got := grammar.Find(g, name); got != want {
			t.Errorf("%q is at %d, want %d", name, got, want)
		}
		for _, none := range [][]api.Rule{nil, {}, g[:0]} {
			if got := grammar.Find(none, name); got != -1 {
				t.Errorf("%q is at %d of no rules", name, got)
			}
		}
	}
	// Rules beyond the length of a slice are none of it.
	for n := range g {
		if got := grammar.Find(g[:n], "c-1"); got >= 0 != (n > 3) {
			t.Errorf("c-1 is at %d of %d rules", got, n)
		}
	}
	for i, r := range grammar.Core() {
		if got := grammar.Find(grammar.Core(), r.Name); got != i {
			t.Errorf("%s is at %d, want %d", r.Name, got, i)
		}
	}
}

// E2: names need not be valid.
func TestFindAnyName(t *testing.T) {
	g := []api.Rule{{}, {Name: "A"}, {Name: "a"}, {Name: "é"}, {Name: "\xff"}, {Name: ""}, {Name: "a b"}, {Name: strings.Repeat("n", 1000)}, {Name: "\xff"}}
	for i, r := range g[:5] {
		if got := grammar.Find(g, r.Name); got != i {
			t.Errorf("%q is at %d, want %d", r.Name, got, i)
		}
		if got := grammar.Find(g[5:], r.Name); got != []int{0, -1, -1, -1, 3}[i] {
			t.Errorf("%q is at %d of the others", r.Name, got)
		}
	}
	if grammar.Find(g, strings.Repeat("n", 1000)) != 7 || grammar.Find(g, strings.Repeat("n", 999)) != -1 || grammar.Find(g[1:], "") != 4 {
		t.Error("a long name, or an empty one, is not found")
	}
}

// E2: names in order, and as often as they stand there.
func TestNames(t *testing.T) {
	a, b, c := ref("a"), ref("b"), ref("c")
	named(t, a, "a")
	named(t, alt(a, b), "a", "b")
	named(t, alt(b, a), "b", "a")
	named(t, seq(a, b), "a", "b")
	named(t, seq(b, a, c), "b", "a", "c")
	named(t, seq(a, a), "a", "a")
	named(t, alt(a, b, a), "a", "b", "a")
	named(t, seq(b, b, b, a, b), "b", "b", "b", "a", "b")
	named(t, option(a), "a")
	// How often something is repeated doesn't matter.
	for _, count := range [][2]int{{0, 0}, {0, -1}, {1, 1}, {2, 2}, {3, 200}} {
		named(t, rep(count[0], count[1], a), "a")
		named(t, rep(count[0], count[1], seq(a, b, a)), "a", "b", "a")
	}
	named(t, ref("digit"), "digit")
	named(t, ref("x-1"), "x-1")
}

// E2: expressions without names.
func TestNoNames(t *testing.T) {
	x := fold("x")
	for _, e := range []api.Expr{x, fold(""), fold("a"), nums(97), nums(4, 4), span(48, 57), alt(x, nums(4)), seq(x, x), rep(2, 2, x), option(alt(seq(x, nums(4), x), span(4, 4))), {}} {
		named(t, e)
	}
}

// E2: names several levels deep, ahead of and behind what has none.
func TestDeepNames(t *testing.T) {
	a, b, c, d, x := ref("a"), ref("b"), ref("c"), ref("d"), fold("x")
	named(t, alt(seq(a, b), seq(c, d)), "a", "b", "c", "d")
	named(t, seq(alt(d, c), b, option(a)), "d", "c", "b", "a")
	named(t, seq(x, alt(x, seq(x, option(rep(2, 2, alt(x, a, x))), x)), x), "a")
	named(t, alt(alt(alt(a, b), c), d), "a", "b", "c", "d")
	named(t, alt(a, alt(b, alt(c, d))), "a", "b", "c", "d")
	named(t, seq(alt(a, seq(b, option(c)), a), rep(0, -1, alt(seq(d, a), x, c))), "a", "b", "c", "a", "d", "a", "c")
	for depth := range 60 {
		named(t, deep(a, depth, option), "a")
		e := seq(b, deep(seq(a, c, a), depth, func(e api.Expr) api.Expr { return alt(x, e) }), d)
		named(t, e, "b", "a", "c", "a", "d")
		var want []string
		for i := range depth {
			want = append(want, fmt.Sprint("n", i))
		}
		e = x
		for _, name := range slices.Backward(want) {
			e = seq(ref(name), e)
		}
		named(t, e, want...)
		e = x
		for _, name := range want {
			e = seq(e, ref(name))
		}
		named(t, e, want...)
	}
}

// E2: many names.
func TestManyNames(t *testing.T) {
	want := make([]string, 30000)
	kids := make([]api.Expr, len(want))
	for i := range want {
		want[i] = fmt.Sprint("n", i%777)
		kids[i] = ref(want[i])
	}
	named(t, alt(kids...), want...)
	named(t, seq(alt(kids[:10000]...), seq(kids[10000:20000]...), rep(0, -1, alt(kids[20000:]...))), want...)
	// Whether one list stands in several places or each of them has its own doesn't matter.
	e := ref("a")
	for range 12 {
		e = seq(e, e)
	}
	named(t, e, slices.Repeat([]string{"a"}, 4096)...)
}

// E2, R1: it doesn't matter how deep an expression is, though Go's stack ends at some depth.
func TestNamesDeeperThanStack(t *testing.T) {
	defer debug.SetMaxStack(debug.SetMaxStack(16 << 20))
	for _, n := range []int{1000, 9997, 9998, 9999, 10000, 10001, 10002, 19998, 19999, 20000, 20001, 100000, 1000000} {
		named(t, seq(ref("a"), deep(ref("b"), n, option), ref("c")), "a", "b", "c")
		named(t, deep(seq(ref("a"), ref("b"), ref("c")), n, option), "a", "b", "c")
	}
	const n = 100000
	a, b := slices.Repeat([]string{"a"}, n), slices.Repeat([]string{"b"}, n)
	named(t, deep(ref("c"), n, func(e api.Expr) api.Expr { return seq(ref("a"), e) }), append(slices.Clip(a), "c")...)
	named(t, deep(ref("c"), n, func(e api.Expr) api.Expr { return alt(e, ref("b")) }), append([]string{"c"}, b...)...)
	named(t, deep(ref("c"), n, func(e api.Expr) api.Expr { return seq(ref("a"), e, ref("b")) }), slices.Concat(a, []string{"c"}, b)...)
	// Each level has a name of its own, ahead of what is below it and behind it, and so has each branch.
	e, want := fold("x"), []string(nil)
	for i := range 30000 {
		one, two := fmt.Sprint("n", i), fmt.Sprint("m", i)
		e, want = seq(ref(one), alt(fold("x"), e, option(ref(two)))), append(want, one)
	}
	slices.Reverse(want)
	for i := range want {
		want = append(want, fmt.Sprint("m", i))
	}
	named(t, e, want...)
	named(t, seq(e, ref("a"), e), slices.Concat(want, []string{"a"}, want)...)
	if got := grammar.Reach([]api.Rule{rule("m0", option(e))}, "m0"); !slices.Equal(got, slices.Concat([]string{"m0"}, want[:30000], want[30001:])) {
		t.Errorf("reached %s", short(got))
	}
}

// E2: what is not valid has names all the same.
func TestNamesOfWrong(t *testing.T) {
	a, b := ref("a"), ref("b")
	named(t, ref(""), "")
	named(t, ref("A b\xff"), "A b\xff")
	named(t, ref(strings.Repeat("n", 100)), strings.Repeat("n", 100))
	named(t, alt())
	named(t, seq(a), "a")
	named(t, rep(2, 1))
	named(t, rep(2, 1, a, b), "a", "b")
	named(t, api.Expr{Kind: 4, Text: "a", N: []int{7}, Min: 3, Max: -5}, "a")
	// Fields that a kind does not have hold no names, but for the expressions in it.
	for kind := -9; kind < 20; kind++ {
		e := api.Expr{Kind: kind, Text: "c", N: []int{4}, Min: 4, Max: 4, Kids: []api.Expr{a, seq(b, a)}}
		if kind == 4 {
			named(t, e, "c", "a", "b", "a")
		} else {
			named(t, e, "a", "b", "a")
		}
	}
}

// endless returns expressions that are nested in themselves, at one place and at all.
func endless(e api.Expr) []api.Expr {
	var l []api.Expr
	for i := range e.Kids {
		one := e
		one.Kids = slices.Clone(e.Kids)
		one.Kids[i] = one
		l = append(l, one, option(one), seq(one, one))
		// By way of others.
		around := slices.Clone(e.Kids)
		around[i] = seq(fold("x"), option(alt(api.Expr{Kind: e.Kind, Kids: around}, fold("x"))))
		l = append(l, around[i], deep(around[i], 7, option))
	}
	all := e
	all.Kids = slices.Clone(e.Kids)
	for i := range all.Kids {
		all.Kids[i] = all
	}
	return append(l, all)
}

// R1: an expression that is nested in itself has no end, but a call has.
func TestEndless(t *testing.T) {
	a, x := ref("a"), fold("x")
	for _, e := range []api.Expr{option(a), alt(a, x), seq(x, a, a), seq(x, x), alt(x, x, x), rep(2, 2, x), {Kind: 4, Text: "b", Kids: []api.Expr{a, a}}} {
		for _, one := range endless(e) {
			grammar.Names(one)
			fails(t, []api.Line{line("a", one)}, api.ErrArg)
			fails(t, []api.Line{line("b", x), more("b", one)}, api.ErrArg)
			got := grammar.Reach([]api.Rule{rule("c", ref("d")), rule("d", one), rule("a", ref("e"))}, "c")
			if len(got) < 2 || got[0] != "c" || got[1] != "d" {
				t.Errorf("reached %s", short(got))
			}
		}
	}
	// By way of so many others that Go's stack would end.
	defer debug.SetMaxStack(debug.SetMaxStack(16 << 20))
	for _, n := range []int{1, 2, 3, 9999, 10000, 10001, 200000} {
		round := make([]api.Expr, n)
		for i := range round {
			round[i] = api.Expr{Kind: 3, Max: 1, Kids: round[(i+1)%n : (i+1)%n+1]}
		}
		got, within := grammar.Names(round[0]), grammar.Names(seq(a, deep(round[0], 12345, option), a))
		if len(got) > 0 || !slices.Equal(within, []string{"a"}) {
			t.Errorf("round of %d: %s and %s", n, short(got), short(within))
		}
	}
}

// E2: an expression that stands in several places is not nested in itself.
func TestNamesOfShared(t *testing.T) {
	a, b := ref("a"), ref("b")
	one := seq(a, option(b))
	for _, depth := range []int{0, 1, 2, 3, 7, 8, 9, 63, 64, 65} {
		for _, further := range []int{0, 1, 2, 5, 8} {
			e := deep(seq(deep(one, further, option), one, one), depth, option)
			named(t, e, "a", "b", "a", "b", "a", "b")
			named(t, alt(e, one, e), slices.Repeat([]string{"a", "b"}, 7)...)
		}
	}
}
