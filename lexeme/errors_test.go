package lexeme_test

import (
	"slices"
	"strings"
	"testing"

	"reglet/api"
	"reglet/lexeme"
)

// wrongs are expressions that are not valid.
func wrongs() map[string]api.Expr {
	x := fold("x")
	return map[string]api.Expr{
		"no kind":                      {},
		"a kind below 1":               {Kind: -1},
		"a kind above 7":               {Kind: 8, Text: "x", N: []int{1}, Kids: []api.Expr{x, x}},
		"an Alt of one":                alt(x),
		"an Alt of none":               alt(),
		"a Seq of one":                 seq(x),
		"a Seq of none":                seq(),
		"a Seq with a text":            {Kind: api.Seq, Text: "x", Kids: []api.Expr{x, x}},
		"an Alt with counts":           {Kind: api.Alt, Max: -1, Kids: []api.Expr{x, x}},
		"a Rep of none":                rep(0, 1),
		"a Rep of two":                 rep(0, 1, x, x),
		"a Rep below 0":                rep(-1, 1, x),
		"a Rep from 201 on":            rep(201, -1, x),
		"a Rep up to 201":              rep(0, 201, x),
		"a Rep that ends ahead of it":  rep(2, 1, x),
		"a Rep up to -2":               rep(0, -2, x),
		"a Ref without a name":         ref(""),
		"a Ref of a capital letter":    ref("A"),
		"a Ref of a digit":             ref("1a"),
		"a Ref of a long name":         ref(strings.Repeat("a", 41)),
		"a Ref with a kid":             {Kind: api.Ref, Text: "b", Kids: []api.Expr{x}},
		"a Fold with a capital letter": fold("xX"),
		"a Fold with a quote":          fold(`x"`),
		"a Fold with a control":        fold("x\n"),
		"a Fold with a byte above 126": fold("\x7f"),
		"a Fold beyond ASCII":          fold("é"),
		"a Fold with a number":         {Kind: api.Fold, N: []int{1}},
		"Nums without numbers":         nums(),
		"Nums below 0":                 nums(-1),
		"Nums above the last one":      nums('x', greatest+1),
		"too many Nums":                nums(make([]int, 10001)...),
		"a Span of one":                span('a'),
		"a Span of three":              span('a', 'b', 'c'),
		"a Span that goes down":        span('b', 'a'),
		"a Span beyond the last one":   span(0, greatest+1),
		"a Span from below 0":          span(-1, 0),
		"too deep":                     deep(x, 51, option),
		"too deep with names":          deep(ref("b"), 51, star),
		"something in the depth":       deep(fold("X"), 50, func(e api.Expr) api.Expr { return seq(x, e) }),
	}
}

// L1: ErrArg where e is not valid, by itself or because something in it is not.
func TestWrongExpr(t *testing.T) {
	x := fold("x")
	g := []api.Rule{rule("a", x), rule("b", x)}
	for name, e := range wrongs() {
		t.Run(name, func(t *testing.T) {
			fails(t, nil, e, api.ErrArg)
			fails(t, g, e, api.ErrArg)
			fails(t, g, alt(x, e), api.ErrArg)
			fails(t, g, seq(ref("a"), ref("b"), e), api.ErrArg)
			fails(t, g, rep(0, 0, e), api.ErrArg)
			fails(t, g, star(alt(x, option(e))), api.ErrArg)
		})
	}
}

// L1: ErrArg where the expression of a rule is not valid, whether it is reached, not reached, or not the first one with its name.
func TestWrongRule(t *testing.T) {
	x := fold("x")
	for name, e := range wrongs() {
		t.Run(name, func(t *testing.T) {
			for _, wrong := range []api.Expr{e, alt(x, e), rep(0, 0, e)} {
				for _, name := range []string{"a", "b", "c", "d", "A", ""} {
					g := []api.Rule{rule("a", ref("b")), rule("b", x), rule("c", x)}
					for i := range len(g) + 1 {
						fails(t, slices.Insert(slices.Clone(g), i, rule(name, wrong)), ref("a"), api.ErrArg)
						fails(t, slices.Insert(slices.Clone(g), i, rule(name, wrong)), x, api.ErrArg)
					}
				}
			}
		})
	}
}

// L1: what is 50 deep is valid, and behind names it may be deeper in all.
func TestDepth(t *testing.T) {
	x := fold("x")
	for _, around := range []func(api.Expr) api.Expr{
		option, star,
		func(e api.Expr) api.Expr { return rep(1, 1, e) },
		func(e api.Expr) api.Expr { return seq(fold(""), e) },
		func(e api.Expr) api.Expr { return alt(e, x) },
	} {
		g := chain(4, x, func(e api.Expr) api.Expr { return deep(e, 50, around) })
		for _, e := range []api.Expr{deep(x, 50, around), deep(ref("a4"), 50, around), deep(ref("a0"), 50, around)} {
			derives(t, g, e, true, "x", true)
			derives(t, g, e, true, "y", false)
			fails(t, g, around(e), api.ErrArg)
			fails(t, []api.Rule{rule("b", around(e))}, x, api.ErrArg)
		}
	}
}

// L1: ErrName where a name is reached that no rule has, wherever it stands.
func TestNoName(t *testing.T) {
	x, none := fold("x"), ref("none")
	inSomething := []api.Expr{none, alt(x, none), alt(none, x), seq(x, none, x), option(none), star(none), rep(0, 0, none), rep(0, 0, seq(x, option(none))), deep(none, 50, star), seq(nums(256), none)}
	for _, e := range inSomething {
		fails(t, nil, e, api.ErrName)
		g := []api.Rule{rule("a", seq(x, ref("b"))), rule("b", rep(0, 0, ref("c"))), rule("c", e), rule("d", x), rule("e", ref("d"))}
		for _, name := range []string{"a", "b", "c"} {
			fails(t, g, ref(name), api.ErrName)
			fails(t, g, alt(ref("d"), ref(name)), api.ErrName)
			fails(t, g, seq(ref(name), ref("e")), api.ErrName)
			fails(t, g, rep(0, 0, ref(name)), api.ErrName)
		}
		// Where it is not reached, it is no error.
		for _, e := range []api.Expr{x, ref("d"), ref("e"), seq(ref("d"), ref("e"))} {
			regexOf(t, g, e, true)
			fails(t, g, seq(e, none), api.ErrName)
		}
	}
}

// L1: names are told apart by their letters' case.
func TestNamesCase(t *testing.T) {
	x := fold("x")
	for _, g := range [][]api.Rule{{rule("A", x)}, {rule("Ab", x), rule("aB", x), rule("AB", x)}, {rule("a ", x), rule(" a", x), rule("a\x00", x)}, {rule("", x)}, {rule("ab-", x), rule("b", x), rule("a", ref("ab"))}} {
		fails(t, g, ref("ab"), api.ErrName)
		fails(t, g, seq(x, ref("ab")), api.ErrName)
	}
	g := []api.Rule{rule("A", fold("y")), rule("a", x)}
	only(t, g, ref("a"), "xy", 2, func(s string) bool { return s == "x" })
	fails(t, g, ref("A"), api.ErrArg)
	// A core rule counts only if it is there.
	fails(t, nil, ref("digit"), api.ErrName)
}

// L1: ErrLoop where a rule is reached from itself.
func TestLoops(t *testing.T) {
	for text, names := range map[string]string{
		`a = a`:                                  "a",
		`a = "x" a`:                              "a",
		`a = a "x" / "x"`:                        "a",
		`a = "x" / "y" [a]`:                      "a",
		`a = *a`:                                 "a",
		`a = 0a`:                                 "a",
		`a = "x" 0(0a)`:                          "a",
		`a = %x100 a`:                            "a",
		`a = b | b = a`:                          "a b",
		`a = b | b = "x" [c] | c = 2("y" / a)`:   "a b c",
		`a = b | b = b "x"`:                      "a b",
		`a = b c | b = "x" | c = d | d = *(b c)`: "a c d",
		`a = b b | b = c c | c = d d | d = a / "x"`:     "a b c d",
		`a = b | b = c | c = d | d = c`:                 "a b c d",
		`a = "x" | b = a c | c = a / b`:                 "b c",
		`a = b / c / d | b = "x" | c = "y" | d = b c d`: "a d",
	} {
		g := rules(t, text)
		for _, name := range strings.Fields(names) {
			for _, e := range []api.Expr{ref(name), seq(fold("x"), ref(name)), option(ref(name)), rep(0, 0, ref(name)), seq(ref("digit"), alt(ref(name), ref(name)))} {
				fails(t, g, e, api.ErrLoop)
			}
		}
		// The other rules have no part in it.
		for _, name := range strings.Fields("a b c d") {
			if !strings.Contains(names, name) && strings.Contains(text, name+" =") {
				regexOf(t, g, ref(name), false)
			}
		}
		regexOf(t, g, seq(ref("digit"), fold("x")), false)
	}
}

// L1: the first rule with a name decides whether there is a loop.
func TestLoopsOfSeveral(t *testing.T) {
	x := fold("x")
	fails(t, []api.Rule{rule("a", ref("a")), rule("a", x)}, ref("a"), api.ErrLoop)
	regexOf(t, []api.Rule{rule("a", x), rule("a", ref("a"))}, ref("a"), true)
	// The second rule a is reached by no name, not even by its own one.
	regexOf(t, []api.Rule{rule("a", ref("b")), rule("b", x), rule("b", ref("a")), rule("a", ref("a"))}, seq(ref("a"), ref("b")), true)
	fails(t, []api.Rule{rule("a", ref("b")), rule("b", ref("a")), rule("b", x), rule("a", x)}, ref("b"), api.ErrLoop)
}

// L1: ErrArg comes ahead of ErrName, ErrName ahead of ErrLoop, and ErrLoop ahead of ErrLong, wherever they stand.
func TestOrder(t *testing.T) {
	x := fold("x")
	long := rep(200, 200, rep(200, 200, x))
	parts := map[api.Errno]api.Rule{
		api.ErrArg:  rule("arg", fold("X")),
		api.ErrName: rule("name", option(ref("none"))),
		api.ErrLoop: rule("loop", seq(x, ref("loop"))),
		api.ErrLong: rule("long", long),
	}
	order := []api.Errno{api.ErrArg, api.ErrName, api.ErrLoop, api.ErrLong}
	for i, first := range order {
		for _, second := range order[i:] {
			for _, third := range order[i:] {
				one, two, three := parts[first], parts[second], parts[third]
				g := []api.Rule{rule("y", seq(ref("x"), x)), one, two, three, rule("x", x)}
				for _, names := range [][]string{{one.Name, two.Name, three.Name}, {two.Name, one.Name, three.Name}, {three.Name, two.Name, one.Name}, {"x", two.Name, "y", one.Name, three.Name, "x"}} {
					var kids []api.Expr
					for _, name := range names {
						kids = append(kids, ref(name))
					}
					for _, e := range []api.Expr{seq(kids...), alt(kids...), seq(x, star(seq(kids...))), rep(0, 0, alt(kids...))} {
						if first == api.ErrLong && e.Max == 0 && e.Kind == api.Rep {
							continue
						}
						fails(t, g, e, first)
						fails(t, append([]api.Rule{rule("whole", e)}, g...), ref("whole"), first)
					}
				}
			}
		}
	}
	// Each in the midst of the other ones.
	fails(t, []api.Rule{rule("a", seq(ref("a"), long, ref("b"))), rule("b", seq(ref("a"), ref("b"), ref("none")))}, ref("a"), api.ErrName)
	fails(t, []api.Rule{rule("a", seq(ref("none"), ref("a"), long))}, ref("a"), api.ErrName)
	fails(t, []api.Rule{rule("a", seq(long, ref("b"))), rule("b", seq(long, ref("a")))}, seq(long, ref("a")), api.ErrLoop)
	fails(t, []api.Rule{rule("a", seq(long, ref("b"))), rule("b", x), rule("c", option(ref("c"))), rule("d", ref("none"))}, seq(long, ref("a")), api.ErrLong)
	fails(t, []api.Rule{rule("c", fold("X")), rule("b", ref("b"))}, seq(long, ref("b"), ref("none")), api.ErrArg)
	fails(t, []api.Rule{rule("b", ref("b"))}, seq(long, ref("b"), ref("none"), fold("X")), api.ErrArg)
}

// R1: with an error the other result is empty, also if much has been looked at before.
func TestErrorsAreAlone(t *testing.T) {
	g := rules(t, `a = "x" | b = 2a | c = b c | d = e`)
	for name, want := range map[string]api.Errno{"a": api.OK, "b": api.OK, "c": api.ErrLoop, "d": api.ErrName, "e": api.ErrName, "B": api.ErrArg} {
		r, errno := lexeme.Regex(g, seq(ref("a"), ref("b"), ref(name)), false)
		if errno != want || (errno == api.OK) != (r.Kind == api.Cat) || errno != api.OK && !same(r, api.Re{}) {
			t.Errorf("%s: error %d", name, errno)
		}
	}
}
