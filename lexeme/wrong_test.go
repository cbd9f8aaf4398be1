package lexeme_test

import (
	"math"
	"math/rand/v2"
	"reflect"
	"slices"
	"sync"
	"testing"

	"reglet/api"
	"reglet/lexeme"
)

// R1: expressions of any kind with any numbers are answered, those that are not valid by ErrArg.
func TestAnyFields(t *testing.T) {
	x := fold("x")
	extremes := []int{math.MinInt, -1 << 32, -201, -2, -1, 0, 1, 2, 200, 201, 255, 256, 0xD800, greatest, greatest + 1, 1 << 32, math.MaxInt}
	for kind := -1; kind < 10; kind++ {
		for _, n := range extremes {
			for _, m := range extremes {
				for _, kids := range [][]api.Expr{nil, {x}, {x, x}, {ref("a")}, {{}}} {
					for _, numbers := range [][]int{nil, {n}, {n, m}} {
						for _, text := range []string{"", "x", "A\xff"} {
							e := api.Expr{Kind: kind, Text: text, N: numbers, Min: n, Max: m, Kids: kids}
							g := []api.Rule{rule("a", x)}
							r, errno := lexeme.Regex(g, e, n > m)
							if want := firstError(g, e); errno != want || errno != api.OK && !same(r, api.Re{}) {
								t.Errorf("%s: error %d, want %d", short(e), errno, want)
							}
						}
					}
				}
			}
		}
	}
}

// R1: what is nested in itself is too deep, and so is what is nested without end by lists that share their memory.
func TestEndless(t *testing.T) {
	kids := []api.Expr{fold("x"), {}}
	for _, e := range []api.Expr{star(fold("x")), seq(kids...), alt(kids...)} {
		l := e.Kids
		l[len(l)-1] = e
		fails(t, nil, e, api.ErrArg)
		fails(t, []api.Rule{rule("a", e)}, fold("x"), api.ErrArg)
		fails(t, []api.Rule{rule("a", star(e))}, ref("a"), api.ErrArg)
	}
	fails(t, nil, deep(fold("x"), 1000000, option), api.ErrArg)
}

// R3: parts of an expression that share their memory, also with rules.
func TestSharedParts(t *testing.T) {
	x := fold("x")
	l := []api.Expr{x, fold("y"), ref("a"), option(x), x}
	g := []api.Rule{rule("a", seq(l[:2]...)), rule("b", alt(l[1:4]...)), rule("c", seq(l...))}
	e := seq(alt(l[2:4]...), star(seq(l[3:5]...)), rep(2, 2, ref("b")), ref("c"))
	for _, utf := range []bool{false, true} {
		r := regexOf(t, g, e, utf)
		if again := regexOf(t, copiedRules(g), copiedExpr(e), utf); !same(r, again) {
			t.Error("shared memory changes the answer")
		}
		words("xy", 8, func(s string) {
			if len(s) == 8 {
				all(t, g, e, r, utf, s)
			}
		})
	}
}

// guard is what stands behind the lists of guarded arguments.
var guard = api.Expr{Kind: -77, Text: "guard", N: []int{-77}, Min: -77, Max: -77}

// guarded returns an expression in memory of its own, with one more item behind each list.
func guarded(e api.Expr) api.Expr {
	e.N = append(slices.Clone(e.N), -77)[:len(e.N)]
	kids := make([]api.Expr, len(e.Kids), len(e.Kids)+1)
	for i, k := range e.Kids {
		kids[i] = guarded(k)
	}
	e.Kids = append(kids, guard)[:len(kids)]
	return e
}

func guardedRules(g []api.Rule) []api.Rule {
	l := make([]api.Rule, len(g), len(g)+1)
	for i, r := range g {
		l[i] = rule(r.Name, guarded(r.Expr))
	}
	return append(l, rule("guard", guard))[:len(l)]
}

// untouched tells whether what is behind the lists of a guarded expression is what it was.
func untouched(e api.Expr) bool {
	if e.N[:len(e.N)+1][len(e.N)] != -77 || !reflect.DeepEqual(e.Kids[:len(e.Kids)+1][len(e.Kids)], guard) {
		return false
	}
	return !slices.ContainsFunc(e.Kids, func(k api.Expr) bool { return !untouched(k) })
}

func sameExpr(a, b api.Expr) bool {
	return a.Kind == b.Kind && a.Text == b.Text && a.Min == b.Min && a.Max == b.Max && slices.Equal(a.N, b.N) && slices.EqualFunc(a.Kids, b.Kids, sameExpr)
}

func sameRule(a, b api.Rule) bool { return a.Name == b.Name && sameExpr(a.Expr, b.Expr) }

// R3: neither the rules and the expression, nor what is behind their lists, are changed.
func TestMemory(t *testing.T) {
	d := newDraw(6)
	for i := range 3000 {
		wasRules := d.rules(1+d.IntN(5), 3, i%3 > 0)
		was := d.expr(d.IntN(4), 3, drawnNames[:1+i%2])
		if i%11 == 0 {
			d.spoil(&was)
		}
		g, e := guardedRules(wasRules), guarded(was)
		r, errno := lexeme.Regex(g, e, i%2 == 0)
		whole := g[:len(g)+1]
		if !sameExpr(e, was) || !untouched(e) || !slices.EqualFunc(g, wasRules, sameRule) || !sameRule(whole[len(g)], rule("guard", guard)) || slices.ContainsFunc(g, func(r api.Rule) bool { return !untouched(r.Expr) }) {
			t.Fatalf("%s of %s was changed", short(was), short(wasRules))
		}
		if again, errnoAgain := lexeme.Regex(wasRules, was, i%2 == 0); errno != errnoAgain || !same(r, again) {
			t.Errorf("%s of %s: what is behind the lists changes the answer", short(was), short(wasRules))
		}
	}
}

// lists calls f with all lists of a regular expression.
func lists(r api.Re, f func([]api.Re)) {
	if cap(r.Kids) > 0 {
		f(r.Kids[:cap(r.Kids)])
	}
	for _, k := range r.Kids {
		lists(k, f)
	}
}

// LANGUAGE.md, 7: the lists of an answer share no memory with each other, though one rule may stand there often.
func TestAnswersAreNew(t *testing.T) {
	x, y := fold("x"), fold("y")
	g := []api.Rule{rule("a", star(seq(x, option(y)))), rule("b", alt(ref("a"), seq(ref("a"), y))), rule("c", option(ref("b")))}
	d := newDraw(7)
	answers := []api.Re{
		regexOf(t, g, rep(3, 5, ref("a")), true), regexOf(t, g, seq(ref("b"), ref("c"), ref("b")), true), regexOf(t, g, rep(2, -1, rep(0, 3, seq(ref("c"), x))), true),
		regexOf(t, g, alt(ref("c"), seq(ref("c"), ref("c")), star(ref("c"))), true), regexOf(t, nil, rep(2, 4, span(0, greatest)), true), regexOf(t, g, ref("b"), true), regexOf(t, g, ref("b"), true),
	}
	for range 300 {
		r, errno := lexeme.Regex(d.rules(4, 3, true), ref("a"), true)
		if errno == api.OK {
			answers = append(answers, r)
		}
	}
	// No two places of any lists are one place.
	places := map[*api.Re]int{}
	for _, r := range answers {
		lists(r, func(l []api.Re) {
			for i := range l {
				places[&l[i]]++
			}
		})
	}
	for _, n := range places {
		if n > 1 {
			t.Fatal("two lists share memory")
		}
	}
	if len(places) < 5000 {
		t.Errorf("only %d places", len(places))
	}
}

// R4: an answer hangs on nothing but the arguments: not on earlier calls, nor on calls at the same time.
func TestNoState(t *testing.T) {
	type call struct {
		g     []api.Rule
		e     api.Expr
		utf   bool
		r     api.Re
		errno api.Errno
	}
	d := newDraw(8)
	var calls []call
	for i := range 500 {
		c := call{g: d.rules(1+d.IntN(5), 3, i%3 > 0), e: d.expr(d.IntN(4), 3, drawnNames[:1+i%2]), utf: i%2 == 0}
		if i%10 == 0 {
			d.spoil(&c.e)
		}
		c.r, c.errno = lexeme.Regex(c.g, c.e, c.utf)
		calls = append(calls, c)
	}
	var group sync.WaitGroup
	for i := range 6 {
		order := rand.New(rand.NewPCG(11, uint64(i))).Perm(len(calls))
		group.Go(func() {
			for _, j := range order {
				c := calls[j]
				if r, errno := lexeme.Regex(c.g, c.e, c.utf); errno != c.errno || !same(r, c.r) {
					t.Errorf("%s of %s: another answer", short(c.e), short(c.g))
				}
			}
		})
	}
	group.Wait()
}
