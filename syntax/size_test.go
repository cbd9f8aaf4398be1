package syntax_test

import (
	"fmt"
	"slices"
	"testing"

	"reglet/api"
)

// letters returns so many expressions, each of them another one.
func letters(n int) []api.Expr {
	l := make([]api.Expr, n)
	for i := range l {
		l[i] = nums(i)
	}
	return l
}

// M1: 3000 productions are built, one more is too long, whatever they come from.
func TestManyProductions(t *testing.T) {
	x := fold("x")
	counts(t, []api.Rule{rule("a", alt(times(most, x)...))}, config("a"), 1, most)
	fails(t, []api.Rule{rule("a", alt(times(most+1, x)...))}, config("a"), api.ErrLong)
	counts(t, []api.Rule{rule("a", alt(times(most, fold(""))...))}, config("a"), 1, most)
	fails(t, []api.Rule{rule("a", alt(times(most+1, fold(""))...))}, config("a"), api.ErrLong)
	counts(t, []api.Rule{rule("a", alt(letters(most)...))}, config("a"), 1, most)
	fails(t, []api.Rule{rule("a", alt(letters(most+1)...))}, config("a"), api.ErrLong)
	fails(t, []api.Rule{rule("a", alt(letters(100000)...))}, config("a"), api.ErrLong)
	// Those of groups, stars and options count all the same.
	for _, c := range []struct {
		e            api.Expr
		names, prods int
	}{
		{star(x), 1, 2}, {option(x), 1, 2}, {rep(0, 2, x), 2, 4}, {rep(3, 103, x), 100, 200}, {alt(x, x, x), 1, 3}, {seq(x, x), 1, 1}, {star(seq(x, alt(x, x))), 3, 5}, {rep(0, 0, seq(x, x)), 1, 1}, {rep(0, 0, star(x)), 1, 2}, {rep(2, 2, rep(2, 2, x)), 1, 1},
	} {
		for _, other := range []api.Expr{x, fold(""), ref("b")} {
			g := []api.Rule{rule("a", alt(append(times(most-c.prods-1, other), seq(x, c.e))...)), rule("b", x)}
			counts(t, g, config("a | b"), c.names+1, most)
			g[0].Expr.Kids = append(g[0].Expr.Kids, other)
			fails(t, g, config("a | b"), api.ErrLong)
		}
		g := []api.Rule{rule("a", seq(x, ref("b"), c.e)), rule("b", alt(times(most-c.prods-1, x)...))}
		counts(t, g, config("a"), c.names+2, most)
		g[1].Expr.Kids = append(g[1].Expr.Kids, x)
		fails(t, g, config("a"), api.ErrLong)
	}
}

// M1: so many rules of the grammar have productions.
func TestManyRules(t *testing.T) {
	x := fold("x")
	counts(t, chain(most, x, same), config("a0"), most, most)
	fails(t, chain(most+1, x, same), config("a0"), api.ErrLong)
	counts(t, chain(most+1, x, same), config("a1"), most, most)
	counts(t, chain(100000, x, same), config("a99000"), 1000, 1000)
	// Tokens and what is not reached don't count.
	counts(t, chain(most+1, x, same), config("a0 | a3000"), most, most)
	counts(t, chain(100000, x, same), config("a0 | a3000"), most, most)
	fails(t, chain(100000, x, same), config("a0 | a3001"), api.ErrLong)
	counts(t, chain(100000, x, same), config("a0 | a77 a3000 | a78 a88888"), 77, 77)
	// The first error counts, and rules of the grammar are none in themselves.
	for at, want := range map[int]api.Errno{0: api.ErrName, 1: api.ErrName, most - 1: api.ErrName, most + 1: api.ErrLong, most + 99: api.ErrLong} {
		g := chain(most+100, x, same)
		g[at].Expr = seq(g[at].Expr, ref("none"))
		fails(t, g, config("a0"), want)
	}
}

// groups returns so many expressions, each of which becomes a new rule with one production.
func groups(n int) []api.Expr { return times(n, seq(fold("x"), fold("y"))) }

// M1: a new rule that would make more than 3000 rules is too long where it is created, though no production is too many as yet.
func TestManyNewRules(t *testing.T) {
	x, y := fold("x"), fold("y")
	for _, n := range []int{1, 2, 10, 199} {
		g := chain(most-n, seq(append(groups(n), x)...), same)
		counts(t, g, config("a0"), most, most)
		g = chain(most-n, seq(append(groups(n), x, ref("none"))...), same)
		fails(t, g, config("a0"), api.ErrName)
		g = chain(most-n, seq(append(groups(n+1), x, ref("none"))...), same)
		fails(t, g, config("a0"), api.ErrLong)
		g = chain(most-n, seq(append(groups(n), ref("none"), seq(x, x))...), same)
		fails(t, g, config("a0"), api.ErrName)
		// Those of a rule are created ahead of the productions of the next one, and those of a group when its turn comes.
		g = chain(most-n, x, same)
		next := g[0].Expr
		g[0].Expr = seq(append(groups(n), next)...)
		counts(t, g, config("a0"), most, most)
		g[1].Expr = seq(g[1].Expr, ref("none"))
		fails(t, g, config("a0"), api.ErrName)
		g[0].Expr.Kids[0] = seq(x, seq(x, y))
		fails(t, g, config("a0"), api.ErrName)
		g[1].Expr = g[1].Expr.Kids[0]
		fails(t, g, config("a0"), api.ErrLong)
		g[1].Expr = seq(g[1].Expr, ref("none"))
		g[0].Expr = seq(append(groups(n+1), next)...)
		fails(t, g, config("a0"), api.ErrLong)
	}
	// All kinds of new rules.
	for _, e := range []api.Expr{alt(x, y), seq(x, y), star(x), option(x), rep(7, 8, x), rep(0, 99, x), rep(200, -1, x), rep(1, 1, seq(x, y)), rep(1, 1, fold("")), rep(0, 0, rep(2, 2, x))} {
		g := chain(most, seq(x, e), same)
		g[most-1].Expr = seq(e, ref("none"))
		fails(t, g, config("a0"), api.ErrLong)
		fails(t, g, config("a1"), api.ErrName)
	}
	// Rules of the grammar that are more than that.
	g := chain(2*most, x, same)
	g[1].Expr = seq(g[1].Expr, ref("none"))
	fails(t, g, config("a0"), api.ErrName)
	g[0].Expr = option(g[0].Expr)
	fails(t, g, config("a0"), api.ErrLong)
}

// M1: the rules that new rules need count where these are created.
func TestManyNested(t *testing.T) {
	x := fold("x")
	counts(t, []api.Rule{rule("a", alt(times(14, rep(0, 100, x))...))}, config("a"), 1401, 14+2*1400)
	fails(t, []api.Rule{rule("a", alt(times(15, rep(0, 100, x))...))}, config("a"), api.ErrLong)
	two := func(e api.Expr) api.Expr { return rep(2, 2, e) }
	for n, want := range []int{1, 1, 2, 4, 8, 16, 32, 64, 128, 256, 512, 1024, 2048} {
		counts(t, []api.Rule{rule("a", deep(x, n, two))}, config("a"), want, want)
	}
	fails(t, []api.Rule{rule("a", deep(x, 13, two))}, config("a"), api.ErrLong)
	for _, around := range []func(api.Expr) api.Expr{two, func(e api.Expr) api.Expr { return rep(1, -1, e) }, func(e api.Expr) api.Expr { return rep(199, 200, e) }, func(e api.Expr) api.Expr { return rep(0, 200, rep(2, 3, e)) }} {
		fails(t, []api.Rule{rule("a", deep(x, 25, around))}, config("a"), api.ErrLong)
		fails(t, chain(3000, x, func(e api.Expr) api.Expr { return deep(e, 25, around) }), config("a0"), api.ErrLong)
	}
}

// M1: a production may have 200 symbols, but not one more.
func TestManySymbols(t *testing.T) {
	x := fold("x")
	long := func(e api.Expr, names, prods int) {
		t.Helper()
		g := []api.Rule{rule("a", alt(fold("y"), e)), rule("b", x), rule("c", x)}
		counts(t, g, config("a | b"), names, prods)
		if s := build(t, g, config("a | b")); len(s.Prods[1].Right) != 200 {
			t.Errorf("%s: %d symbols", short(e), len(s.Prods[1].Right))
		}
		// In a group, and as the only alternative.
		counts(t, []api.Rule{rule("a", seq(x, alt(x, e))), rule("b", x), rule("c", x)}, config("a | b"), names+1, prods+1)
		build(t, []api.Rule{rule("a", e), rule("b", x), rule("c", x)}, config("a | b"))
	}
	tooLong := func(e api.Expr) {
		t.Helper()
		for _, whole := range []api.Expr{e, alt(fold("y"), e), seq(x, alt(x, e)), rep(0, 0, alt(x, e)), star(seq(x, option(alt(e, x))))} {
			g := []api.Rule{rule("a", whole), rule("b", x), rule("c", e)}
			fails(t, g, config("a | b"), api.ErrLong)
			fails(t, []api.Rule{rule("a", ref("c")), g[1], g[2]}, config("a | b"), api.ErrLong)
			build(t, []api.Rule{rule("a", ref("c")), g[1], g[2]}, config("a | c"))
		}
	}
	for _, one := range []api.Expr{x, nums('x'), span('x', 'y'), ref("b")} {
		long(seq(times(200, one)...), 1, 2)
		long(seq(append(times(200, one), times(200, fold(""))...)...), 1, 2)
		long(seq(append(times(200, one), rep(0, 0, x))...), 1, 2)
		long(rep(200, 200, one), 1, 2)
		long(rep(199, -1, one), 2, 4)
		long(rep(199, 200, one), 2, 4)
		long(seq(rep(100, 100, one), rep(99, -1, one)), 2, 4)
		long(seq(append(times(199, one), option(one))...), 2, 4)
		for _, more := range []api.Expr{one, star(one), option(one), rep(1, 1, one), alt(x, one), seq(x, one), ref("a")} {
			tooLong(seq(append(times(200, one), more)...))
			tooLong(seq(append([]api.Expr{more}, times(200, one)...)...))
			tooLong(seq(rep(200, 200, one), more))
			tooLong(seq(more, fold(""), rep(200, 200, one)))
		}
		tooLong(rep(200, -1, one))
		tooLong(seq(rep(100, 100, one), rep(101, 101, one)))
		tooLong(seq(rep(200, 200, one), rep(200, 200, one)))
		tooLong(seq(times(200, rep(200, 200, one))...))
	}
	long(seq(times(200, ref("a"))...), 1, 2)
	long(seq(groups(200)...), 201, 202)
	tooLong(seq(groups(201)...))
	// What is repeated is no production of its own, unless it becomes a group.
	fails(t, []api.Rule{rule("a", rep(0, 0, rep(200, -1, x)))}, config("a"), api.ErrLong)
	counts(t, []api.Rule{rule("a", rep(0, 0, rep(199, -1, x)))}, config("a"), 4, 6)
	counts(t, []api.Rule{rule("a", rep(200, 200, rep(200, 200, x)))}, config("a"), 2, 2)
}

// M1: that a production is too long is known only behind its last symbol.
func TestLongBehindName(t *testing.T) {
	x := fold("x")
	for _, e := range []api.Expr{seq(times(201, x)...), seq(times(20000, x)...), rep(200, -1, x), seq(times(200, rep(200, 200, x))...)} {
		for _, none := range []api.Expr{ref("none"), rep(0, 0, ref("none")), star(ref("none"))} {
			whole := seq(append(times(1, e), none)...)
			if e.Kind == api.Seq {
				whole = seq(append(slices.Clone(e.Kids), none)...)
			}
			fails(t, []api.Rule{rule("a", whole)}, config("a"), api.ErrName)
			fails(t, []api.Rule{rule("a", seq(ref("b"), ref("none"))), rule("b", whole)}, config("b"), api.ErrName)
			fails(t, []api.Rule{rule("a", alt(x, whole))}, config("a"), api.ErrName)
			fails(t, []api.Rule{rule("a", alt(e, none))}, config("a"), api.ErrLong)
			fails(t, []api.Rule{rule("a", seq(none, e))}, config("a"), api.ErrName)
		}
		// Also a group, whose turn has not come, is behind it.
		fails(t, []api.Rule{rule("a", seq(append(times(201, x), alt(x, ref("none")))...))}, config("a"), api.ErrLong)
	}
	// One that would be the 3001st has symbols first.
	fails(t, []api.Rule{rule("a", alt(append(times(most, x), ref("none"))...))}, config("a"), api.ErrName)
	fails(t, []api.Rule{rule("a", alt(append(times(most+1, x), ref("none"))...))}, config("a"), api.ErrLong)
}

// R1: much of what needs no symbols, many tokens, and many names.
func TestLargeRules(t *testing.T) {
	x := fold("x")
	counts(t, []api.Rule{rule("a", seq(append(times(300000, fold("")), x)...))}, config("a"), 1, 1)
	s := build(t, []api.Rule{rule("a", alt(times(1000, seq(letters(200)...))...))}, config("a"))
	if len(s.Tokens) != 200 || len(s.Prods) != 1000 || len(s.Prods[999].Right) != 200 {
		t.Errorf("%d tokens, %d productions", len(s.Tokens), len(s.Prods))
	}
	many := letters(200000)
	var alternatives []api.Expr
	for i := range 1000 {
		alternatives = append(alternatives, seq(many[i*200:][:200]...))
	}
	s = build(t, []api.Rule{rule("a", alt(alternatives...))}, config("a"))
	if len(s.Tokens) != 200000 || s.Prods[999].Right[199].N != 199999 {
		t.Errorf("%d tokens", len(s.Tokens))
	}
	fails(t, []api.Rule{rule("a", seq(many...))}, config("a"), api.ErrLong)
	fails(t, []api.Rule{rule("a", seq(times(300000, rep(200, 200, x))...))}, config("a"), api.ErrLong)
	fails(t, []api.Rule{rule("a", seq(append(times(300000, rep(200, 200, x)), ref("none"))...))}, config("a"), api.ErrName)
	// Names of the config, each of a rule.
	g := chain(100000, x, same)
	c := config("a0")
	for i := 1; i < len(g); i++ {
		c.Tokens = append(c.Tokens, g[i].Name)
	}
	c.Tokens, c.Skip = c.Tokens[:50000], c.Tokens[50000:]
	s = build(t, g, c)
	if len(s.Names) != 1 || s.Named != 99999 || s.Skip != 49999 || s.Tokens[99998].Name != "a99999" {
		t.Errorf("%d names, %d tokens", len(s.Names), s.Named)
	}
	c.Skip = append(c.Skip, "a0")
	fails(t, g, c, api.ErrTwice)
	c.Skip[49999] = "none"
	fails(t, g, c, api.ErrName)
	// Many names in one expression.
	var names []api.Expr
	for i := range 1400 {
		names = append(names, ref(fmt.Sprint("a", i*13%1400)))
	}
	g = append(g[:1400:1400], rule("b", alt(names...)))
	g[1399].Expr = x
	counts(t, g, config("b"), 1401, 2800)
}
