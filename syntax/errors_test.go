package syntax_test

import (
	"slices"
	"strings"
	"testing"

	"reglet/api"
)

// wrongs are expressions that are not valid.
func wrongs() map[string]api.Expr {
	x := fold("x")
	return map[string]api.Expr{
		"no kind":                      {},
		"a kind below 1":               {Kind: -1},
		"a kind above 7":               {Kind: 8, Text: "x", N: []int{1}, Kids: []api.Expr{x, x}},
		"an Alt of one":                alt(x),
		"an Alt of none":               alt(),
		"a Seq of one":                 seq(x),
		"a Seq of none":                seq(),
		"a Seq with a text":            {Kind: api.Seq, Text: "x", Kids: []api.Expr{x, x}},
		"an Alt with counts":           {Kind: api.Alt, Max: -1, Kids: []api.Expr{x, x}},
		"a Rep of none":                rep(0, 1),
		"a Rep of two":                 rep(0, 1, x, x),
		"a Rep below 0":                rep(-1, 1, x),
		"a Rep from 201 on":            rep(201, -1, x),
		"a Rep up to 201":              rep(0, 201, x),
		"a Rep that ends ahead of it":  rep(2, 1, x),
		"a Rep up to -2":               rep(0, -2, x),
		"a Ref without a name":         ref(""),
		"a Ref of a capital letter":    ref("A"),
		"a Ref of a new rule":          ref("a.0"),
		"a Ref of a long name":         ref(strings.Repeat("a", 41)),
		"a Ref with a kid":             {Kind: api.Ref, Text: "b", Kids: []api.Expr{x}},
		"a Fold with a capital letter": fold("xX"),
		"a Fold with a quote":          fold(`x"`),
		"a Fold with a byte above 126": fold("\x7f"),
		"a Fold with a number":         {Kind: api.Fold, N: []int{1}},
		"Nums without numbers":         nums(),
		"Nums below 0":                 nums(-1),
		"Nums above the last one":      nums('x', greatest+1),
		"too many Nums":                nums(make([]int, 10001)...),
		"a Span of one":                span('a'),
		"a Span of three":              span('a', 'b', 'c'),
		"a Span that goes down":        span('b', 'a'),
		"a Span beyond the last one":   span(0, greatest+1),
		"too deep":                     deep(x, 51, option),
		"something in the depth":       deep(fold("X"), 50, func(e api.Expr) api.Expr { return seq(x, e) }),
	}
}

// M1: ErrArg where the expression of a rule is not valid, whether the rule is reached or not, a token or skipped, the first one with its name or not; it comes ahead of all other errors.
func TestWrongRule(t *testing.T) {
	x := fold("x")
	for name, e := range wrongs() {
		t.Run(name, func(t *testing.T) {
			for _, wrong := range []api.Expr{e, alt(x, e), rep(0, 0, e)} {
				for _, name := range []string{"a", "b", "c", "d", "w", "A", ""} {
					g := []api.Rule{rule("a", ref("b")), rule("b", seq(ref("c"), x)), rule("c", x), rule("w", x), rule("z", ref("none"))}
					for i := range len(g) + 1 {
						g := slices.Insert(slices.Clone(g), i, rule(name, wrong))
						for _, c := range []string{"a", "a | c", "a | b | w", "a || w c", "z", "none", "", "a | a", "a | b b", "a | w | w", "a | none", "a | b none | b"} {
							fails(t, g, config(c), api.ErrArg)
						}
					}
				}
			}
		})
	}
	fails(t, []api.Rule{{}}, api.Config{}, api.ErrArg)
	fails(t, []api.Rule{rule("a", x), {Name: "b"}}, config("a"), api.ErrArg)
}

// M1: what is 50 deep is valid, and behind names it may be deeper in all.
func TestDepth(t *testing.T) {
	x := fold("x")
	for _, c := range []struct {
		around      func(api.Expr) api.Expr
		rules, many int
	}{
		{option, 50, 101},
		{star, 50, 101},
		{func(e api.Expr) api.Expr { return rep(1, 1, e) }, 0, 1},
		{func(e api.Expr) api.Expr { return seq(fold(""), e) }, 49, 50},
		{func(e api.Expr) api.Expr { return alt(e, x) }, 49, 100},
	} {
		g := chain(4, deep(x, 50, c.around), func(e api.Expr) api.Expr { return deep(e, 50, c.around) })
		counts(t, g, config("a3"), 1+c.rules, c.many)
		counts(t, g, config("a0"), 4+4*c.rules, 4*c.many)
		g[2].Expr = c.around(g[2].Expr)
		fails(t, g, config("a0"), api.ErrArg)
		fails(t, g, config("a3"), api.ErrArg)
	}
}

// M1: ErrTwice where two of the names of the config are equal; it comes ahead of ErrName.
func TestTwice(t *testing.T) {
	g := rules(t, `a = b | b = "x" | c = "y" | w = " "`)
	for _, c := range []string{"a | a", "a || a", "a | b b", "a | b | b", "a || b b", "a | b c w digit b", "a | b c | w b", "a || b c w c", "a | b c w | a", "a | b c | b c", "b | a c b w"} {
		fails(t, g, config(c), api.ErrTwice)
		// Though others are the names of no rules, and though these are.
		fails(t, g, config(c+" none"), api.ErrTwice)
		fails(t, nil, config(c), api.ErrTwice)
		fails(t, []api.Rule{rule("d", ref("none"))}, config(c), api.ErrTwice)
		fails(t, []api.Rule{rule("d", fold("x")), rule("d", rep(200, -1, fold("x")))}, config(strings.ReplaceAll(c, "b", "d")), api.ErrTwice)
	}
	for _, c := range []string{"none | none", "none || none", "a | none none", "a | none | none", "a || none none", "|| b b"} {
		fails(t, g, config(c), api.ErrTwice)
	}
	fails(t, g, api.Config{Start: "a", Tokens: []string{"", ""}}, api.ErrTwice)
	fails(t, g, api.Config{Tokens: []string{""}}, api.ErrTwice)
	fails(t, g, api.Config{Skip: []string{""}}, api.ErrTwice)
}

// M1: ErrName where a name of the config is the name of no rule.
func TestNoRule(t *testing.T) {
	g := rules(t, `a = b | b = "x" | c = "y" | w = " "`)
	for _, c := range []string{"none", "", "none | b | w", "a | none", "a | b none", "a | none b", "a || none", "a | b | w none", "a | b | none w", "A", "a | B", "a || W", "a | b B", "a | b | c C", "aa", "a.0", "a | a.0", "a | b-", "a | b- | w", "a | bb", "| a b", "a | digit digits"} {
		fails(t, g, config(c), api.ErrName)
	}
	fails(t, g, api.Config{Start: "a", Tokens: []string{""}}, api.ErrName)
	fails(t, g, api.Config{Start: "a", Tokens: []string{"b "}}, api.ErrName)
	fails(t, g, api.Config{Start: "a", Skip: []string{" b"}}, api.ErrName)
	fails(t, g, api.Config{Start: "a\x00"}, api.ErrName)
	fails(t, nil, api.Config{}, api.ErrName)
	fails(t, nil, config("a | b | c"), api.ErrName)
	// A core rule counts only if it is there.
	fails(t, []api.Rule{rule("a", fold("x"))}, config("a | digit"), api.ErrName)
	fails(t, []api.Rule{rule("A", fold("x"))}, config("a"), api.ErrName)
	// It comes ahead of what occurs in the conversion.
	g = rules(t, `a = 200*"x" | b = none | w = "x"`)
	for _, c := range []string{"a", "b"} {
		fails(t, g, config(c+" | none"), api.ErrName)
		fails(t, g, config(c+" || none w"), api.ErrName)
	}
	fails(t, g, config("a"), api.ErrLong)
}

// M1: ErrName where a Ref names no rule, or one that is skipped, wherever it stands.
func TestNoSymbol(t *testing.T) {
	const whole = ` | b = "y" d | c = "z" | d = b / digit | w = " " | v = c`
	for _, name := range []string{"none", "w", "v", "a0", "b-", "x", "hexdig-1"} {
		for _, e := range []string{`N`, `"x" N`, `N "x"`, `"x" / N`, `N / "x"`, `("x" / N) "y"`, `"y" ("x" / N)`, `[N]`, `*N`, `0N`, `2N`, `0("x" N)`, `0(2("x" / 0N))`, `*(*(*N))`, `"x" / *("y" ["z" N])`, `*b 3*7N`, `"" N ""`} {
			e = strings.ReplaceAll(e, "N", name)
			for _, c := range []string{"a || w v", "a | c | v w", "a | b c | w v"} {
				refuses(t, `a = `+e+whole, c, api.ErrName)
				refuses(t, `a = c / d "x" / e | e = `+e+whole, c, api.ErrName)
				refuses(t, `a = 0(*e) | e = *(0f) | f = `+e+whole, c, api.ErrName)
				// Where it is not reached, or is in a token or in what is skipped, it is no error.
				for _, sound := range []string{"c || w v", "b | c d | w v", "c | a | w v", "c | digit | a w v", "f | a | v w", "f || w v"} {
					build(t, rules(t, `a = `+e+` / "x" | f = c`+whole), config(sound))
				}
				build(t, rules(t, `f = a "x" | a = `+e+whole), config("f | a | v w"))
			}
		}
	}
	// The same names are no error if they are not skipped.
	is(t, `a = w v | w = " " | v = "x"`, "a", `a w v | " " "x" | a: w v | w: " " | v: "x"`)
	is(t, `a = w v | w = " " | v = "x"`, "a | w v", `a | w v | a: w v`)
	is(t, `a = w v | w = " " | v = "x"`, "a | v w", `a | v w | a: w v`)
	refuses(t, `a = w v | w = " " | v = "x"`, "a | v | w", api.ErrName)
	refuses(t, `a = w v | w = " " | v = "x"`, "a | w | v", api.ErrName)
	// A rule with the name in other letters' case is another one.
	fails(t, []api.Rule{rule("a", ref("b")), rule("B", fold("x"))}, config("a"), api.ErrName)
	// New rules have names, too.
	fails(t, []api.Rule{rule("a", seq(star(fold("x")), ref("a-0")))}, config("a"), api.ErrName)
}

// M1: the first error that occurs in the conversion counts: rules are taken in the order of Names, alternatives and elements in theirs, and groups when their turn comes.
func TestFirstInConversion(t *testing.T) {
	for text, want := range map[string]api.Errno{
		`a = 200*"x" / none`:                     api.ErrLong,
		`a = none / 200*"x"`:                     api.ErrName,
		`a = 200*"x" none`:                       api.ErrName,
		`a = none 200*"x"`:                       api.ErrName,
		`a = 200"x" 200"x" "x" none / "y"`:       api.ErrName,
		`a = b c | b = 200*"x" | c = none`:       api.ErrLong,
		`a = b c | b = none | c = 200*"x"`:       api.ErrName,
		`a = c b | b = none | c = 200*"x"`:       api.ErrLong,
		`a = c b | b = 200*"x" | c = none`:       api.ErrName,
		`a = ("x" none) b | b = 200*"x"`:         api.ErrLong,
		`a = (200*"x" none) b | b = none`:        api.ErrName,
		`a = (200*"x" / "y") "z" ("x" / none)`:   api.ErrLong,
		`a = ("x" / none) "z" (200*"x" / "y")`:   api.ErrName,
		`a = ("x" (none "x")) (200*"x" "y")`:     api.ErrLong,
		`a = ("x" 2(none "x")) (200*"x" "y")`:    api.ErrLong,
		`a = ("x" 2none) (200*"x" "y")`:          api.ErrName,
		`a = b 200"x" | b = c | c = none`:        api.ErrLong,
		`a = b | b = c | c = none | d = 200*"x"`: api.ErrName,
		`a = 0(200*"x") b | b = none`:            api.ErrName,
		`a = 0(200*"x") b | b = "y" ("z" none)`:  api.ErrLong,
	} {
		refuses(t, text, "a", want)
	}
}
