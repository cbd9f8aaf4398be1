package firsts_test

import (
	"slices"
	"strings"
	"testing"

	"reglet/api"
	"reglet/firsts"
)

// The example of the chapter.
func TestExample(t *testing.T) {
	s := of("a b", "x y", "a: b x | b: y | b:")
	if got := sets(s, firsts.First(s)); got != "x y | y" {
		t.Errorf("First: %s", got)
	}
	if got := sets(s, firsts.Follow(s)); got != "$ | x" {
		t.Errorf("Follow: %s", got)
	}
}

// N1: a syntax is valid if all its numbers are indices, whatever else it has.
func TestRight(t *testing.T) {
	for name, s := range map[string]api.Syntax{
		"nothing":                       {},
		"names only":                    of("a b", "", ""),
		"tokens only":                   of("", "x y", ""),
		"no productions":                of("a b", "x y", ""),
		"no tokens":                     of("a b", "", "a: b a b | b: | b: a"),
		"all indices":                   of("a b c", "x y", "a: a b c x y | b: y x c b a | c:"),
		"more rules than tokens":        numbered(3, 1, prod(2, non(2), tok(0))),
		"more tokens than rules":        numbered(1, 3, prod(0, tok(2), non(0))),
		"the same production twice":     of("a", "x", "a: a x | a: a x"),
		"the same name twice":           {Names: []string{"a", "a"}, Prods: []api.Prod{prod(1, non(0)), prod(0, non(1))}},
		"a Skip and a Named below 0":    {Names: []string{"a"}, Skip: -1, Named: -1, Prods: []api.Prod{prod(0)}},
		"a Skip and a Named too great":  {Names: []string{"a"}, Skip: 9, Named: 9, Prods: []api.Prod{prod(0)}},
		"a token with a wrong Expr":     {Names: []string{"a"}, Tokens: []api.Token{{Expr: api.Expr{Kind: -1}}}, Prods: []api.Prod{prod(0, tok(0))}},
		"a token by itself and a name":  {Names: []string{"x"}, Tokens: []api.Token{{Name: "x"}}, Prods: []api.Prod{prod(0, tok(0), non(0))}},
		"tokens of which none is named": {Names: []string{"a"}, Tokens: make([]api.Token, 2), Named: 0, Prods: []api.Prod{prod(0, tok(1))}},
	} {
		if !firsts.Right(s) {
			t.Errorf("%s: not valid", name)
		}
		agrees(t, s, nil)
	}
}

// N1: a Left, a token or a rule that is no index, wherever it stands: the syntax is not valid, and all other answers are empty.
func TestWrong(t *testing.T) {
	whole := of("a b c", "x y", "a: b x c | b: y a | b: | c: x")
	numbers := []int{-1 << 63, -1 << 32, -4, -3, -2, -1, 2, 3, 4, 5, 64, 1 << 32, 1<<63 - 1}
	wrong := func(s api.Syntax) {
		t.Helper()
		for _, l := range [][]api.Sym{nil, {tok(0)}, {non(1)}, {non(1), non(1)}, {tok(9)}} {
			if got := ask(s, l); !got.same(answers{}) {
				t.Errorf("%v: %+v", s.Prods, got)
			}
		}
	}
	each := func(f func(at int) api.Prod) {
		t.Helper()
		for at := range len(whole.Prods) + 1 {
			s := whole
			s.Prods = slices.Insert(slices.Clone(s.Prods), at, f(at))
			wrong(s)
		}
	}
	for _, n := range numbers {
		for _, right := range [][]api.Sym{nil, {tok(1)}, {non(0), non(2)}} {
			if n != 2 {
				each(func(int) api.Prod { return prod(n, right...) })
			}
			for i := range len(right) + 1 {
				each(func(at int) api.Prod { return prod(at%3, slices.Insert(slices.Clone(right), i, tok(n))...) })
				if n != 2 {
					each(func(at int) api.Prod { return prod(at%3, slices.Insert(slices.Clone(right), i, non(n))...) })
				}
			}
		}
	}
	for _, s := range []api.Syntax{of("", "x y", ""), of("", "", "")} {
		s.Prods = []api.Prod{prod(0)}
		wrong(s)
		s.Prods = []api.Prod{prod(-1, tok(0))}
		wrong(s)
		s.Prods = []api.Prod{prod(0, non(0))}
		wrong(s)
	}
	wrong(numbered(2, 0, prod(0), prod(1, tok(0))))
	wrong(numbered(2, 0, prod(0), prod(1, tok(-1))))
}

// N2: which rules are nullable.
func TestEmpty(t *testing.T) {
	for _, c := range []struct{ names, tokens, prods, want string }{
		{"", "", "", ""},
		{"", "x", "", ""},
		{"a b", "x", "", ""},
		{"a", "", "a:", "a"},
		{"a", "x", "a: x", ""},
		{"a", "x", "a: x | a:", "a"},
		{"a", "x", "a: | a: x", "a"},
		{"a", "x", "a: | a:", "a"},
		// Through others, in any order, and in several steps.
		{"a b", "x", "a: b | b:", "a b"},
		{"a b", "x", "b: | a: b", "a b"},
		{"a b", "x", "a: b | b: x", ""},
		{"a b c", "x", "a: b c | b: c | c:", "a b c"},
		{"a b c", "x", "a: b c | b: c | c: x", ""},
		{"a b c d", "x", "a: b | b: c | c: d | d:", "a b c d"},
		{"d c b a", "x", "a: b | b: c | c: d | d:", "d c b a"},
		{"a b c", "x", "a: b c | b: | c: x", "b"},
		{"a b c", "x", "a: c b | b: | c: x", "b"},
		{"a b c", "x", "a: c b | b: | c: x | c: b b", "a b c"},
		// All symbols count, and no token is nullable.
		{"a b", "x", "a: b x | b:", "b"},
		{"a b", "x", "a: x b | b:", "b"},
		{"a b", "x", "a: b x b | b:", "b"},
		{"a b", "x", "a: b b b | b:", "a b"},
		{"a b c", "x", "a: b b c b | b:", "b"},
		// One production is enough.
		{"a b", "x", "a: b x | a: x | a: b | b:", "a b"},
		// Rules that come to themselves.
		{"a", "x", "a: a", ""},
		{"a", "x", "a: a a", ""},
		{"a", "x", "a: a a | a:", "a"},
		{"a", "x", "a: a x | a:", "a"},
		{"a b", "x", "a: b | b: a", ""},
		{"a b", "x", "a: b | b: a | b:", "a b"},
		{"a b c", "x", "a: b c | b: c a | c: a b", ""},
		{"a b c", "x", "a: b c | b: c a | c: a b | a:", "a"},
		{"a b c", "x", "a: b c | b: c a | c: a b | a: | c: a a", "a b c"},
		// A rule that nothing reaches, and one without a production.
		{"a b", "x", "a: x | b:", "b"},
		{"a b", "x", "a: b | a: x", ""},
	} {
		s := of(c.names, c.tokens, c.prods)
		if got := firsts.Empty(s); len(got) != len(s.Names) || yes(s, got) != c.want {
			t.Errorf("%s: %s, want %s", c.prods, yes(s, got), c.want)
		}
	}
}

// firstCases are syntaxes, with their FIRST sets.
var firstCases = []struct{ names, tokens, prods, want string }{
	{"", "", "", ""},
	{"", "x", "", ""},
	{"a b", "x", "", " | "},
	{"a b", "", "a: b | b:", " | "},
	{"a", "x y", "a: y x", "y"},
	{"a", "x y", "a: y | a: x", "x y"},
	{"a", "x y", "a: y | a: x | a: y | a: x", "x y"},
	{"a", "x y z", "a: z | a: x y z | a:", "x z"},
	// Through rules, in any order, and in several steps.
	{"a b", "x y", "a: b y | b: x", "x | x"},
	{"b a", "x y", "a: b y | b: x", "x | x"},
	{"a b c d", "x y", "a: b | b: c | c: d | d: y | c: x", "x y | x y | x y | y"},
	{"d c b a", "x y", "d: y | c: d | b: c | a: b | c: x", "y | x y | x y | x y"},
	// After nullable rules only.
	{"a b", "x y", "a: b x | b: y | b:", "x y | y"},
	{"a b", "x y", "a: b x | b: y", "y | y"},
	{"a b", "x y", "a: b x | b:", "x | "},
	{"a b c", "x y z", "a: b c z | b: x | b: | c: y | c:", "x y z | x | y"},
	{"a b c", "x y z", "a: b c z | b: x | b: | c: y", "x y | x | y"},
	{"a b c", "x y z", "a: b c z | b: x | c: y | c:", "x | x | y"},
	{"a b c", "x y z", "a: b c | b: x | b: | c: y | c:", "x y | x | y"},
	{"a b c", "x y z", "a: b b b z | b: c c | c:", "z |  | "},
	{"a b", "x y z", "a: b x y b z | b:", "x | "},
	{"a b", "x y z", "a: x b | b: y", "x | y"},
	// Rules that come to themselves on the left, in the middle and on the right.
	{"a", "x y", "a: a x | a: y", "y"},
	{"a", "x y", "a: a x | a: y | a:", "x y"},
	{"a", "x y z", "a: x a z | a: y", "x y"},
	{"a", "x y", "a: x a | a: y", "x y"},
	{"a b", "x y z", "a: b a z | a: y | b:", "y | "},
	{"a b", "x y z", "a: b a z | b: | a: b", "z | "},
	{"a b", "x y", "a: b x | b: a y | a:", "y | y"},
	{"a b", "x y", "a: b x | b: a y", " | "},
	{"a b c", "x y z", "a: b | b: c | c: a | a: x | b: y | c: z", "x y z | x y z | x y z"},
	// Rules that derive nothing.
	{"a", "x", "a: x a", "x"},
	{"a", "x", "a: a x", ""},
	{"a", "x y", "a: a x | a: y a", "y"},
	{"a b", "x y", "a: x b", "x | "},
	{"a b", "x y", "a: b x", " | "},
	{"a b", "x y", "a: b y | b: x b", "x | x"},
	{"a b c", "x y", "a: c b y | b: x b | c:", "x | x | "},
	// A rule that nothing reaches.
	{"a b", "x y", "a: x | b: y", "x | y"},
	{"a b", "x y", "a: x | b: a y", "x | x"},
	// The sums of arithmetic.
	{"e r t", "n + ( )", "e: t r | r: + t r | r: | t: n | t: ( e )", "n ( | + | n ("},
}

// N3: the FIRST sets.
func TestFirst(t *testing.T) {
	for _, c := range firstCases {
		s := of(c.names, c.tokens, c.prods)
		if got := firsts.First(s); len(got) != len(s.Names) || sets(s, got) != c.want {
			t.Errorf("%s: %s, want %s", c.prods, sets(s, got), c.want)
		}
	}
}

// N3: the FIRST set of a rule alone is its own, and it is as nullable as that.
func TestOfRule(t *testing.T) {
	for _, c := range firstCases {
		s := of(c.names, c.tokens, c.prods)
		empty, first := firsts.Empty(s), firsts.First(s)
		for i := range s.Names {
			got, all := firsts.Of(s, []api.Sym{non(i)})
			if !slices.Equal(got, first[i]) || all != empty[i] {
				t.Errorf("%s: Of %s: %s, %v, want %s, %v", c.prods, s.Names[i], named(s, got), all, named(s, first[i]), empty[i])
			}
		}
	}
}

// N3: the FIRST sets of lists.
func TestOf(t *testing.T) {
	s := of("a b c d e f", "x y z w", "a: b x | b: y | b: | c: c z | c: | d: w d | f: b c | f: x")
	for text, want := range map[string]string{
		"":        ", yes",
		"x":       "x, no",
		"w":       "w, no",
		"w x":     "w, no",
		"x a":     "x, no",
		"a":       "x y, no",
		"a z":     "x y, no",
		"b":       "y, yes",
		"b b":     "y, yes",
		"c":       "z, yes",
		"b c":     "y z, yes",
		"c b":     "y z, yes",
		"c b c b": "y z, yes",
		"b x":     "x y, no",
		"b w":     "y w, no",
		"c w b":   "z w, no",
		"w c b":   "w, no",
		"c x b y": "x z, no",
		"b c a":   "x y z, no",
		"b c a w": "x y z, no",
		"a b c":   "x y, no",
		"f":       "x y z, yes",
		"f f":     "x y z, yes",
		"f w":     "x y z w, no",
		"b c f w": "x y z w, no",
		// What derives nothing has a FIRST set, but is not nullable; without productions it has none.
		"d":     "w, no",
		"b d":   "y w, no",
		"b d x": "y w, no",
		"d b":   "w, no",
		"e":     ", no",
		"b e":   "y, no",
		"e b":   ", no",
		"b e x": "y, no",
		"e x":   ", no",
	} {
		l, all := firsts.Of(s, list(s, text))
		got := named(s, l) + ", no"
		if all {
			got = named(s, l) + ", yes"
		}
		if got != want {
			t.Errorf("Of %s: %s, want %s", text, got, want)
		}
	}
}

// N3: Of a list with a symbol that is no index, wherever it stands, is nothing, and so it is without Names.
func TestOfWrong(t *testing.T) {
	nothing := func(s api.Syntax, l ...api.Sym) {
		t.Helper()
		if got, all := firsts.Of(s, l); len(got) > 0 || all {
			t.Errorf("Of %v: %v, %v", l, got, all)
		}
	}
	s := of("a b c", "x y", "a: b x | b: | c: y")
	for _, n := range []int{-1 << 63, -1 << 32, -3, -2, -1, 2, 3, 4, 64, 1 << 32, 1<<63 - 1} {
		for _, text := range []string{"", "a", "b", "x", "b b b", "x y a b c"} {
			whole := list(s, text)
			for i := range len(whole) + 1 {
				nothing(s, slices.Insert(slices.Clone(whole), i, tok(n))...)
				if n != 2 {
					nothing(s, slices.Insert(slices.Clone(whole), i, non(n))...)
				}
			}
		}
	}
	for _, tokens := range []string{"", "x", "x y"} {
		s := of("", tokens, "")
		nothing(s)
		nothing(s, tok(0))
		nothing(s, tok(1))
		nothing(s, non(0))
		nothing(s, tok(0), tok(0))
	}
	// Without Tokens there are lists of rules.
	s = of("a b", "", "a: b b | b:")
	nothing(s, tok(0))
	nothing(s, non(0), tok(0))
	if l, all := firsts.Of(s, list(s, "a b a")); len(l) > 0 || !all {
		t.Errorf("%v, %v", l, all)
	}
	// Without Prods there are lists, too.
	s = of("a", "x", "")
	if l, all := firsts.Of(s, nil); len(l) > 0 || !all {
		t.Errorf("%v, %v", l, all)
	}
	if l, all := firsts.Of(s, list(s, "x a")); named(s, l) != "x" || all {
		t.Errorf("%v, %v", l, all)
	}
}

// N4: the FOLLOW sets.
func TestFollow(t *testing.T) {
	for _, c := range []struct{ names, tokens, prods, want string }{
		{"", "", "", ""},
		{"", "x", "", ""},
		// The end is in the set of rule 0, whatever it has.
		{"a", "", "", "$"},
		{"a b", "x", "", "$ | "},
		{"a", "x", "a: x", "$"},
		{"b a", "x", "a: x", "$ | "},
		{"a", "x", "a: x a", "$"},
		{"a", "x", "a: a x", "x $"},
		{"a", "x y", "a: y a x | a: a y", "x y $"},
		{"a b", "x", "b: a x", "x $ | "},
		// The end in the sets of others, through several rules.
		{"a b", "x", "a: x b", "$ | $"},
		{"a b", "x", "a: b", "$ | $"},
		{"a b", "x", "b: a", "$ | "},
		{"a b c d", "x", "a: b | b: x c | c: d", "$ | $ | $ | $"},
		{"a d c b", "x", "c: d | b: x c | a: b", "$ | $ | $ | $"},
		{"a b", "x", "a: b x", "$ | x"},
		// What comes behind an occurrence.
		{"a b c", "x y", "a: b c | c: y | c: x", "$ | x y | $"},
		{"a b c", "x y", "a: b c | c: y", "$ | y | $"},
		{"a b c", "x y", "a: b c | c: y | c:", "$ | y $ | $"},
		{"a b c", "x y", "a: b c x | c: y | c:", "$ | x y | x"},
		{"a b c d", "x y z", "a: b c d | c: y | c: | d: z | d:", "$ | y z $ | z $ | $"},
		{"a b c d", "x y z", "a: b c d x | c: y | c: | d: z | d:", "$ | x y z | x z | x"},
		{"a b c d", "x y z", "a: b c d | c: y | c: | d: z", "$ | y z | z | $"},
		{"a b c d", "x y z", "a: b c d | c: y | d: z | d:", "$ | y | z $ | $"},
		{"a b c d", "x y z", "a: b c d | c: | d: c", "$ | $ | $ | $"},
		{"a b c", "x y z", "a: b x c y", "$ | x | y"},
		// Those of the Left behind what is nullable, but not behind anything else.
		{"a b c", "x y", "a: b x | b: c | c: y", "$ | x | x"},
		{"a b c", "x y", "a: b x | b: c b | b:", "$ | x | x"},
		{"a b c", "x y", "a: b x | b: c y | c:", "$ | x | y"},
		{"a b c d", "x y", "a: b x | b: c d d | d:", "$ | x | x | x"},
		{"a b c d", "x y", "a: b x | b: c d d | d: | d: y", "$ | x | x y | x y"},
		{"a b c d", "x y", "a: b x | b: c d d | d: y", "$ | x | y | x y"},
		// The same rule twice in a production, and a production twice.
		{"a b", "x y", "a: b b | b: x", "$ | x $"},
		{"a b", "x y", "a: b x b y", "$ | x y"},
		{"a b", "x y", "a: b b b | b:", "$ | $"},
		{"a b", "x y", "a: b b b | b: | b: y", "$ | y $"},
		{"a b", "x y", "a: b x b y | a: b x b y", "$ | x y"},
		{"a", "x", "a: a a | a: x", "x $"},
		{"a", "x y", "a: a x a y | a:", "x y $"},
		// Several productions.
		{"a b", "x y z", "a: b z | a: b x | a: y b", "$ | x z $"},
		{"a b c", "x y z", "a: z | c: b y | c: b x", "$ | x y | "},
		// Rules that derive nothing count all the same, and so do those that nothing reaches.
		{"a b", "x y", "a: b x a | b: y b", "$ | x"},
		{"a b c", "x y", "a: b c | c: x c", "$ | x | $"},
		{"a b c", "x y", "a: b c", "$ |  | $"},
		{"a b c", "x y", "a: x | b: c y", "$ |  | y"},
		// Rules that come to themselves.
		{"a b", "x y", "a: b x | b: a y", "y $ | x"},
		{"a b", "x y", "a: x b | b: y a", "$ | $"},
		{"a b", "x y", "a: x b | b: y a | a: a x", "x $ | x $"},
		{"a b c", "x y z", "a: x b | b: y c | c: z a | a: c a", "x z $ | x z $ | x z $"},
		// The sums of arithmetic.
		{"e r t", "n + ( )", "e: t r | r: + t r | r: | t: n | t: ( e )", ") $ | ) $ | + ) $"},
	} {
		s := of(c.names, c.tokens, c.prods)
		if got := firsts.Follow(s); len(got) != len(s.Names) || sets(s, got) != c.want {
			t.Errorf("%s: %s, want %s", c.prods, sets(s, got), c.want)
		}
	}
}

// N5: which rules derive any list.
func TestUseful(t *testing.T) {
	for _, c := range []struct{ names, tokens, prods, want string }{
		{"", "", "", ""},
		{"a b", "x", "", ""},
		{"a", "", "a:", "a"},
		{"a", "x", "a: x", "a"},
		{"a", "x", "a: x x x", "a"},
		{"a", "x", "a: a", ""},
		{"a", "x", "a: x a", ""},
		{"a", "x", "a: a x", ""},
		{"a", "x", "a: x a x", ""},
		{"a", "x", "a: x a | a: x", "a"},
		{"a", "x", "a: x a | a:", "a"},
		{"a b", "x", "a: b | b: x", "a b"},
		{"a b", "x", "b: x | a: b", "a b"},
		{"a b", "x", "a: b | b: a", ""},
		{"a b", "x", "a: b x | b: x a | b: b b", ""},
		{"a b", "x", "a: b x | b: x a | b: x", "a b"},
		{"a b", "x", "a: b", ""},
		{"a b", "x", "a: x b", ""},
		{"a b", "x", "a: b x", ""},
		{"a b", "x", "a: b | a: x", "a"},
		{"a b c", "x", "a: b c | b: x", "b"},
		{"a b c", "x", "a: c b | b: x", "b"},
		{"a b c", "x", "a: b b c | b: x | c:", "a b c"},
		{"a b c", "x", "a: b x b | b: c c | c: x", "a b c"},
		{"a b c d", "x", "a: b | b: c | c: d | d: x", "a b c d"},
		{"a b c d", "x", "a: b x | b: x c | c: x d x", ""},
		{"a b", "x", "a: a | b: x", "b"},
		{"a b", "x", "a: x | b: b", "a"},
		{"e r t", "n + ( )", "e: t r | r: + t r | r: | t: n | t: ( e )", "e r t"},
		{"e r t", "n + ( )", "e: t r | r: + t r | r: | t: ( e )", "r"},
	} {
		s := of(c.names, c.tokens, c.prods)
		if got := firsts.Useful(s); len(got) != len(s.Names) || yes(s, got) != c.want {
			t.Errorf("%s: %s, want %s", c.prods, yes(s, got), c.want)
		}
	}
}

// N3 and N4: numbers come in ascending order, each once, though productions give them in another order and often; the end is the number of tokens.
func TestAscending(t *testing.T) {
	for _, tokens := range []int{1, 2, 63, 64, 65, 128, 129, 1000} {
		s := numbered(3, tokens, prod(0, non(1), non(2)), prod(1, non(2), non(2)), prod(2))
		var all []int
		for i := range tokens {
			all = append(all, i)
			back := tokens - 1 - i
			s.Prods = append(s.Prods, prod(2, tok(back), non(1)), prod(1, tok(back)), prod(1, tok(back), tok(i)))
		}
		end := append(slices.Clone(all), tokens)
		if got := firsts.First(s); !sameSets(got, [][]int{all, all, all}) {
			t.Errorf("%d: First: %s", tokens, short(got))
		}
		if got := firsts.Follow(s); !sameSets(got, [][]int{{tokens}, end, end}) {
			t.Errorf("%d: Follow: %s", tokens, short(got))
		}
		if got, yes := firsts.Of(s, []api.Sym{non(2), non(1), non(0)}); !slices.Equal(got, all) || !yes {
			t.Errorf("%d: Of: %s, %v", tokens, short(got), yes)
		}
	}
}

// N2 to N5: neither the order of productions, nor one that is there twice, changes an answer.
func TestOrder(t *testing.T) {
	d := newDraw(4)
	for range 3000 {
		s := d.small()
		l := d.symbols(s, 3)
		was := ask(s, l)
		again := s
		again.Prods = slices.Clone(s.Prods)
		for range d.IntN(4) {
			if len(s.Prods) > 0 {
				again.Prods = append(again.Prods, s.Prods[d.IntN(len(s.Prods))])
			}
		}
		d.Shuffle(len(again.Prods), func(i, j int) { again.Prods[i], again.Prods[j] = again.Prods[j], again.Prods[i] })
		if got := ask(again, l); !got.same(was) {
			t.Errorf("%v:\n%+v, want\n%+v", again.Prods, got, was)
		}
	}
}

// N2 to N5: what a syntax has beside its productions and the numbers of its rules and tokens changes no answer.
func TestOtherFields(t *testing.T) {
	d := newDraw(5)
	for range 1000 {
		s := d.small()
		l := d.symbols(s, 3)
		was := ask(s, l)
		other := s
		other.Skip, other.Named = d.IntN(9)-4, d.IntN(9)-4
		other.Names = strings.Split(strings.Repeat("x,", len(s.Names)), ",")[:len(s.Names)]
		other.Tokens = slices.Repeat([]api.Token{{Name: "x", Expr: api.Expr{Kind: -9, N: []int{1}}}}, len(s.Tokens))
		if got := ask(other, l); !got.same(was) {
			t.Errorf("%v:\n%+v, want\n%+v", s.Prods, got, was)
		}
	}
}
