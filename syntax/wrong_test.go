package syntax_test

import (
	"math"
	"math/rand/v2"
	"reflect"
	"slices"
	"strings"
	"sync"
	"testing"

	"reglet/api"
	"reglet/syntax"
)

// R1: expressions of any kind with any numbers are answered, those that are not valid by ErrArg.
func TestAnyFields(t *testing.T) {
	x := fold("x")
	extremes := []int{math.MinInt, -1 << 32, -201, -2, -1, 0, 1, 2, 200, 201, 255, 256, 0xD800, greatest, greatest + 1, 1 << 32, math.MaxInt}
	for kind := -1; kind < 10; kind++ {
		for _, n := range extremes {
			for _, m := range extremes {
				for _, kids := range [][]api.Expr{nil, {x}, {x, x}, {ref("a")}, {{}}} {
					for _, numbers := range [][]int{nil, {n}, {n, m}} {
						for _, text := range []string{"", "x", "A\xff"} {
							e := api.Expr{Kind: kind, Text: text, N: numbers, Min: n, Max: m, Kids: kids}
							asked(t, []api.Rule{rule("a", x), rule("b", e)}, config("b"))
						}
					}
				}
			}
		}
	}
}

// R1: what is nested in itself is too deep, and so is what is nested without end by lists that share their memory.
func TestEndless(t *testing.T) {
	kids := []api.Expr{fold("x"), {}}
	for _, e := range []api.Expr{star(fold("x")), seq(kids...), alt(kids...)} {
		l := e.Kids
		l[len(l)-1] = e
		for _, c := range []string{"a", "b", "b | a", "none"} {
			fails(t, []api.Rule{rule("a", e), rule("b", fold("x"))}, config(c), api.ErrArg)
			fails(t, []api.Rule{rule("b", fold("x")), rule("a", option(e))}, config(c), api.ErrArg)
		}
	}
	fails(t, []api.Rule{rule("a", deep(fold("x"), 1000000, option))}, config("a"), api.ErrArg)
}

// R1: rules that come back to themselves end, since each is taken once.
func TestLoops(t *testing.T) {
	for _, text := range []string{`a = a`, `a = a a`, `a = *a`, `a = 2(2a)`, `a = b | b = a`, `a = b c | b = c a | c = a b`, `a = *(b / *a) | b = *(a / *b)`} {
		asked(t, rules(t, text), config("a"))
		build(t, rules(t, text), config("a"))
	}
	counts(t, chain(3000, ref("a0"), same), config("a7"), 3000, 3000)
}

// R3: parts of rules that share their memory.
func TestSharedParts(t *testing.T) {
	x := fold("x")
	l := []api.Expr{x, nums(1, 2), ref("a"), option(x), nums(1, 2), seq(x, x)}
	g := []api.Rule{rule("a", seq(l[:2]...)), rule("b", alt(l[1:4]...)), rule("c", seq(l...)), rule("d", seq(l[2], alt(l[2:4]...), star(seq(l[3:5]...)), rep(2, 2, ref("b")), ref("c")))}
	for _, c := range []string{"d", "d | a", "d | b c", "c", "b | a"} {
		if s, again := build(t, g, config(c)), build(t, copiedRules(g), config(c)); !sameSyntax(s, again) {
			t.Error("shared memory changes the answer")
		}
		asked(t, g, config(c))
	}
	names := []string{"a", "b", "c", "d"}
	asked(t, g, api.Config{Start: names[3], Tokens: names[:1], Skip: names[1:2]})
	asked(t, g, api.Config{Start: names[3], Tokens: names[:2], Skip: names[1:3]})
}

func copiedExpr(e api.Expr) api.Expr {
	e.N = slices.Clone(e.N)
	e.Kids = slices.Clone(e.Kids)
	for i := range e.Kids {
		e.Kids[i] = copiedExpr(e.Kids[i])
	}
	return e
}

func copiedRules(g []api.Rule) []api.Rule {
	g = slices.Clone(g)
	for i := range g {
		g[i].Expr = copiedExpr(g[i].Expr)
	}
	return g
}

// guard is what stands behind the lists of guarded arguments.
var guard = api.Expr{Kind: -77, Text: "guard", N: []int{-77}, Min: -77, Max: -77}

// guarded returns an expression in memory of its own, with one more item behind each list.
func guarded(e api.Expr) api.Expr {
	e.N = append(slices.Clone(e.N), -77)[:len(e.N)]
	kids := make([]api.Expr, len(e.Kids), len(e.Kids)+1)
	for i, k := range e.Kids {
		kids[i] = guarded(k)
	}
	e.Kids = append(kids, guard)[:len(kids)]
	return e
}

func guardedRules(g []api.Rule) []api.Rule {
	l := make([]api.Rule, len(g), len(g)+1)
	for i, r := range g {
		l[i] = rule(r.Name, guarded(r.Expr))
	}
	return append(l, rule("guard", guard))[:len(l)]
}

// guardedNames puts many names behind a list, so that there is room for others.
func guardedNames(l []string) []string {
	return append(slices.Clone(l), slices.Repeat([]string{"guard"}, 20)...)[:len(l)]
}

// untouched tells whether what is behind the lists of a guarded expression is what it was.
func untouched(e api.Expr) bool {
	if e.N[:len(e.N)+1][len(e.N)] != -77 || !reflect.DeepEqual(e.Kids[:len(e.Kids)+1][len(e.Kids)], guard) {
		return false
	}
	return !slices.ContainsFunc(e.Kids, func(k api.Expr) bool { return !untouched(k) })
}

// unchanged tells whether a guarded list of names, and what is behind it, is what it was.
func unchanged(l, was []string) bool {
	behind := l[:len(l)+20][len(l):]
	return slices.Equal(l, was) && !slices.ContainsFunc(behind, func(s string) bool { return s != "guard" })
}

// R3: neither the rules and the config, nor what is behind their lists, are changed.
func TestMemory(t *testing.T) {
	d := newDraw(5)
	for i := range 5000 {
		n := 1 + d.IntN(5)
		wasRules, was := d.rules(n, 3, n), d.config(drawnNames[:n])
		switch i % 11 {
		case 0:
			d.spoil(&wasRules[0].Expr)
		case 1:
			was = d.config(append([]string{"a", "f"}, drawnNames[:n]...))
		case 2:
			was.Tokens = nil
		}
		g := guardedRules(wasRules)
		c := api.Config{Start: was.Start, Tokens: guardedNames(was.Tokens), Skip: guardedNames(was.Skip)}
		s, errno := syntax.Build(g, c)
		whole := g[:len(g)+1]
		if !slices.EqualFunc(g, wasRules, sameRule) || !sameRule(whole[len(g)], rule("guard", guard)) || slices.ContainsFunc(g, func(r api.Rule) bool { return !untouched(r.Expr) }) {
			t.Fatalf("%s was changed", short(wasRules))
		}
		if !unchanged(c.Tokens, was.Tokens) || !unchanged(c.Skip, was.Skip) {
			t.Fatalf("%+v was changed to %+v", was, c)
		}
		if again, errnoAgain := syntax.Build(wasRules, was); errno != errnoAgain || !sameSyntax(s, again) {
			t.Errorf("%+v of %s: what is behind the lists changes the answer", was, short(wasRules))
		}
	}
}

// places counts all places of the lists of integers, names, expressions, tokens, symbols and productions, with what is behind them.
func places(count map[any]int, s api.Syntax) {
	add(count, s.Names)
	add(count, s.Tokens)
	add(count, s.Prods)
	for _, p := range s.Prods {
		add(count, p.Right)
	}
	for _, token := range s.Tokens {
		placesOf(count, token.Expr)
	}
}

func placesOf(count map[any]int, e api.Expr) {
	add(count, e.N)
	add(count, e.Kids)
	for _, k := range e.Kids {
		placesOf(count, k)
	}
}

func add[T any](count map[any]int, l []T) {
	l = l[:cap(l)]
	for i := range l {
		count[&l[i]]++
	}
}

// LANGUAGE.md, 7: an answer is new memory, of which no two lists share any, nor with an argument.
func TestAnswersAreNew(t *testing.T) {
	d := newDraw(6)
	count := map[any]int{}
	for i := range 1000 {
		n := 1 + d.IntN(5)
		g, c := d.rules(n, 5, n), d.config(drawnNames[:n])
		if i == 0 {
			g, c = []api.Rule{rule("a", alt(seq(nums(1, 2, 3), span(4, 5), rep(9, 19, nums(6))), rep(3, 3, nums(7)), star(span(8, 9)))), rule("b", nums(7))}, config("a | b")
		}
		g = copiedRules(g)
		for range 2 {
			if s, errno := syntax.Build(g, c); errno == api.OK {
				places(count, s)
			}
		}
		for _, r := range g {
			placesOf(count, r.Expr)
		}
		add(count, g)
		add(count, c.Tokens)
		add(count, c.Skip)
	}
	for place, n := range count {
		if n > 1 {
			t.Fatalf("two lists share memory, a %T", place)
		}
	}
	if len(count) < 50000 {
		t.Errorf("only %d places", len(count))
	}
}

// R4: an answer hangs on nothing but the arguments: not on earlier calls, nor on calls at the same time.
func TestNoState(t *testing.T) {
	type call struct {
		g     []api.Rule
		c     api.Config
		s     api.Syntax
		errno api.Errno
	}
	d := newDraw(7)
	var calls []call
	for i := range 500 {
		n := 1 + d.IntN(5)
		one := call{g: d.rules(n, 4, n), c: d.config(drawnNames[:n])}
		if i%10 == 0 {
			d.spoil(&one.g[0].Expr)
		}
		one.s, one.errno = syntax.Build(one.g, one.c)
		calls = append(calls, one)
	}
	var group sync.WaitGroup
	for i := range 6 {
		order := rand.New(rand.NewPCG(12, uint64(i))).Perm(len(calls))
		group.Go(func() {
			for _, j := range order {
				one := calls[j]
				if s, errno := syntax.Build(one.g, one.c); errno != one.errno || !sameSyntax(s, one.s) {
					t.Errorf("%+v of %s: another answer", one.c, short(one.g))
				}
			}
		})
	}
	group.Wait()
}

// M2: whether numbers are characters makes no difference to a syntax.
func TestUtf(t *testing.T) {
	d := newDraw(8)
	for range 500 {
		n := 1 + d.IntN(5)
		g, c := d.rules(n, 4, n), d.config(drawnNames[:n])
		s, errno := syntax.Build(g, c)
		c.Utf = true
		if again, errnoAgain := syntax.Build(g, c); errno != errnoAgain || !sameSyntax(s, again) {
			t.Errorf("%+v of %s: another answer with Utf", c, short(g))
		}
	}
}

// R1: names and texts of any length.
func TestLongTexts(t *testing.T) {
	name := strings.Repeat("x", 100000)
	g := []api.Rule{rule(name, seq(star(fold(name)), fold(name+"y"), fold(name), nums(make([]int, 10000)...), ref("b"))), rule(name+"b", fold("")), rule("b", alt(nums(make([]int, 9999)...), fold(name)))}
	s := build(t, g, api.Config{Start: name, Tokens: []string{name + "b"}})
	if len(s.Tokens) != 5 || len(s.Names) != 3 || s.Names[2] != name+".0" || s.Tokens[0].Name != name+"b" {
		t.Errorf("%d tokens, %d names", len(s.Tokens), len(s.Names))
	}
	asked(t, g, api.Config{Start: name, Skip: []string{name + "b"}})
}
