package syntax_test

import (
	"fmt"
	"strings"
	"testing"

	"reglet/api"
)

// M2, M3: the chapter's example.
func TestExample(t *testing.T) {
	is(t, `a = "x" *b | b = "y"`, "a | b", `a a.0 | b "x" | a: "x" a.0 | a.0: b a.0 | a.0:`)
}

// M1: the tokens of the config come first, in order, then those that are skipped, each with a Ref to it; then those without names.
func TestTokens(t *testing.T) {
	const text = `a = "x" b / c "y" | b = "1" | c = "2" | v = "3" | w = "4"`
	for c, want := range map[string]string{
		"a":           `a b c | "x" "y" "1" "2" | a: "x" b | a: c "y" | b: "1" | c: "2"`,
		"a | b":       `a c | b "x" "y" "2" | a: "x" b | a: c "y" | c: "2"`,
		"a | b c":     `a | b c "x" "y" | a: "x" b | a: c "y"`,
		"a | c b":     `a | c b "x" "y" | a: "x" b | a: c "y"`,
		"a | c b | w": `a | c b ~w "x" "y" | a: "x" b | a: c "y"`,
		// Those that stand nowhere in the rules are tokens as well.
		"a | v c w b":      `a | v c w b "x" "y" | a: "x" b | a: c "y"`,
		"a | | w v":        `a b c | ~w ~v "x" "y" "1" "2" | a: "x" b | a: c "y" | b: "1" | c: "2"`,
		"a | digit b | v ": `a c | digit b ~v "x" "y" "2" | a: "x" b | a: c "y" | c: "2"`,
		"b | a":            `b | a "1" | b: "1"`,
		"b | a c v w":      `b | a c v w "1" | b: "1"`,
		"b | | c a":        `b | ~c ~a "1" | b: "1"`,
		"w":                `w | "4" | w: "4"`,
	} {
		is(t, text, c, want)
	}
}

// M1: Named is the number of all tokens that have names, Skip the number of those that are skipped.
func TestNamedAndSkip(t *testing.T) {
	g := rules(t, `a = b "x" | b = "y" | c = "z" | w = " "`)
	for c, want := range map[string][2]int{"a": {0, 0}, "a | b": {1, 0}, "a | b c": {2, 0}, "a || w": {1, 1}, "a | b | w": {2, 1}, "a | b | c w": {3, 2}, "a || c w": {2, 2}} {
		if s := build(t, g, config(c)); s.Named != want[0] || s.Skip != want[1] {
			t.Errorf("%s: %d named and %d skipped tokens, want %v", c, s.Named, s.Skip, want)
		}
	}
}

// M2: Names begins with the start; the names in the expressions follow, those of one rule behind those of the rules ahead of it, each once.
func TestNames(t *testing.T) {
	for text, want := range map[string]string{
		`a = a`:         "a",
		`a = b | b = a`: "a b",
		`a = b c | b = d c e | c = f d | d = "x" | e = a b | f = "y" / f`: "a b c d e f",
		`a = c b | b = d | c = e | d = "x" | e = "y"`:                     "a c b e d",
		`a = e / d c / *b | b = "x" | c = "x" | d = "x" | e = "x"`:        "a e d c b a.0",
		`a = [*(c 0b)] d | b = "x" | c = "x" | d = "x"`:                   "a c b d a.0 a.1 a.2",
		`a = "x" b b b a b | b = c c a b | c = a`:                         "a b c",
		`b = "x" | c = b | a = c`:                                         "a c b",
		`a = digit | c = b | b = alpha`:                                   "a digit",
		`a = hexdig`:                                                      "a hexdig digit",
		`a = lwsp`:                                                        "a lwsp wsp crlf sp htab cr lf lwsp.0 lwsp.1",
	} {
		if s := build(t, rules(t, text), config("a")); strings.Join(s.Names, " ") != want {
			t.Errorf("%s: the names are %v, want %s", text, s.Names, want)
		}
	}
}

// M2: tokens are no rules, and what only they name is not needed.
func TestNamesOfTokens(t *testing.T) {
	is(t, `a = b c d | b = e f | c = f | d = "x" | e = "y" | f = d`, "a | b f", `a c d | b f "x" | a: b c d | c: f | d: "x"`)
	is(t, `a = b c | b = c | c = *b / b`, "a | b", `a c c.0 | b | a: b c | c: c.0 | c: b | c.0: b c.0 | c.0:`)
	is(t, `a = b | b = a`, "a | b", `a | b | a: b`)
	is(t, `a = b | b = a`, "b | a", `b | a | b: a`)
}

// M2: of several rules with one name the first one counts.
func TestSeveralRules(t *testing.T) {
	is(t, `a = b | b = "1" | a = c | b = "2" | c = "3"`, "a", `a b | "1" | a: b | b: "1"`)
	is(t, `a = b c | b = "1" | b = "2" | c = b | c = none`, "a | b", `a c | b | a: b c | c: b`)
	is(t, `a = b | b = "1" | a = none | b = a none`, "a", `a b | "1" | a: b | b: "1"`)
	// One that is a token is one by its name, however often it is there.
	is(t, `a = b | b = "1" | b = *c | c = d`, "a | b", `a | b | a: b`)
}

// M2: alternatives become productions, their elements symbols, in order.
func TestAlternatives(t *testing.T) {
	is(t, `a = "x"`, "a", `a | "x" | a: "x"`)
	is(t, `a = "x" "y"`, "a", `a | "x" "y" | a: "x" "y"`)
	is(t, `a = "x" / "y"`, "a", `a | "x" "y" | a: "x" | a: "y"`)
	is(t, `a = "x" "y" / "z" / a "x" a`, "a", `a | "x" "y" "z" | a: "x" "y" | a: "z" | a: a "x" a`)
	is(t, `a = "" / "x" ""`, "a", `a | "x" | a: | a: "x"`)
	is(t, `a = b | b = "x" / c | c = "y" a / ""`, "a", `a b c | "x" "y" | a: b | b: "x" | b: c | c: "y" a | c:`)
	is(t, `a = ("x" "y") / ("z")`, "a", `a | "x" "y" "z" | a: "x" "y" | a: "z"`)
	is(t, `a = b | b = digit`, "a | digit", `a b | digit | a: b | b: digit`)
}

// M3: an Alt or a Seq in another one is a group.
func TestGroups(t *testing.T) {
	is(t, `a = ("x" / "y") "z"`, "a", `a a.0 | "z" "x" "y" | a: a.0 "z" | a.0: "x" | a.0: "y"`)
	is(t, `a = "z" ("x" / "y" a) / ("y" / b "x") "y" | b = "1"`, "a", `a b a.0 a.1 | "z" "y" "1" "x" | a: "z" a.0 | a: a.1 "y" | b: "1" | a.0: "x" | a.0: "y" a | a.1: "y" | a.1: b "x"`)
	g := []api.Rule{rule("a", alt(fold("x"), alt(fold("y"), seq(fold("z"), alt(fold("1"), fold("2"))))))}
	toldAs(t, g, "a", `a a.0 a.0.1 | "x" "y" "z" "1" "2" | a: "x" | a: a.0 | a.0: "y" | a.0: "z" a.0.1 | a.0.1: "1" | a.0.1: "2"`)
	g = []api.Rule{rule("a", seq(fold("x"), seq(fold("y"), seq(fold("z"), fold("1"))), seq(fold("2"), fold("3"))))}
	toldAs(t, g, "a", `a a.0 a.1 a.0.2 | "x" "y" "2" "3" "z" "1" | a: "x" a.0 a.1 | a.0: "y" a.0.2 | a.1: "2" "3" | a.0.2: "z" "1"`)
	g = []api.Rule{rule("a", alt(seq(alt(fold("x"), fold("y")), fold("")), seq(seq(fold("x"), ref("a")), seq(fold("x"), ref("a")))))}
	toldAs(t, g, "a", `a a.0 a.1 a.2 | "x" "y" | a: a.0 | a: a.1 a.2 | a.0: "x" | a.0: "y" | a.1: "x" a | a.2: "x" a`)
}

// toldAs asks for the syntax itself, of any rules.
func toldAs(t *testing.T, g []api.Rule, c, want string) {
	t.Helper()
	if got := told(build(t, g, config(c))); got != want {
		t.Errorf("%s of %s:\n%s, want\n%s", c, short(g), short(got), short(want))
	}
}

// M3: equal expressions are one token, in whatever rules they stand, and others are not.
func TestUnnamedTokens(t *testing.T) {
	is(t, `a = "x" b "x" ("x" / "y") | b = "y" "x" [%x78] / *%x78`, "a", `a b a.0 b.1 b.2 | "x" "y" %x78 | a: "x" b "x" a.0 | b: "y" "x" b.1 | b: b.2 | a.0: "x" | a.0: "y" | b.1: %x78 | b.1: | b.2: %x78 b.2 | b.2:`)
	is(t, `a = %x41 %x41.41 %x41-41 "a" %x41 %x41.41 %x41-41 "a" %x41-42 %x41.42`, "a", `a | %x41 %x41.41 %x41-41 "a" %x41-42 %x41.42 | a: %x41 %x41.41 %x41-41 "a" %x41 %x41.41 %x41-41 "a" %x41-42 %x41.42`)
	// Numbers are not told apart by the digits alone, nor texts by what they have in common.
	is(t, `a = %d1.23 %d12.3 %d123 %d1.2.3 %d1-23 %d12-30 "1,23" "123" "1" "12" "" "x" "xx" "x " " x"`, "a", `a | %x01.17 %x0C.03 %x7B %x01.02.03 %x01-17 %x0C-1E "1,23" "123" "1" "12" "x" "xx" "x " " x" | a: %x01.17 %x0C.03 %x7B %x01.02.03 %x01-17 %x0C-1E "1,23" "123" "1" "12" "x" "xx" "x " " x"`)
	// A token with a name is another one, though it has the same strings.
	is(t, `a = b "x" c / "x" | b = "x" | c = b`, "a | b c", `a | b c "x" | a: b "x" c | a: "x"`)
	is(t, `a = "X" %s"x" "x"`, "a", `a | "x" %x78 | a: "x" %x78 "x"`)
}

// M3: a Fold with an empty text has no symbols, wherever it stands.
func TestEmptyFolds(t *testing.T) {
	is(t, `a = ""`, "a", `a | | a:`)
	is(t, `a = "" "" / "" | b = ""`, "a | b", `a | b | a: | a:`)
	is(t, `a = "" "x" "" b | b = ("" / "x" "")`, "a", `a b | "x" | a: "x" b | b: | b: "x"`)
	is(t, `a = *"" | b = ""`, "a", `a a.0 a.1 | | a: a.1 | a.0: | a.1: a.0 a.1 | a.1:`)
	is(t, `a = [""] "x"`, "a", `a a.0 a.1 | "x" | a: a.1 "x" | a.0: | a.1: a.0 | a.1:`)
	is(t, `a = 3"" 0""`, "a", `a a.0 a.1 | | a: a.0 a.0 a.0 | a.0: | a.1:`)
}

// M3: repetitions of a symbol, from 0 to 0, to 1, to more, and on; from n to n, to more, and on.
func TestRepetitions(t *testing.T) {
	for of, want := range map[string]string{
		"0":   `a | X | a:`,
		"1":   `a | X | a: X`,
		"2":   `a | X | a: X X`,
		"5":   `a | X | a: X X X X X`,
		"*1":  `a a.0 | X | a: a.0 | a.0: X | a.0:`,
		"*":   `a a.0 | X | a: a.0 | a.0: X a.0 | a.0:`,
		"1*":  `a a.0 | X | a: X a.0 | a.0: X a.0 | a.0:`,
		"3*":  `a a.0 | X | a: X X X a.0 | a.0: X a.0 | a.0:`,
		"*2":  `a a.0 a.0.1 | X | a: a.0 | a.0: X a.0.1 | a.0: | a.0.1: X | a.0.1:`,
		"*3":  `a a.0 a.0.1 a.0.1.2 | X | a: a.0 | a.0: X a.0.1 | a.0: | a.0.1: X a.0.1.2 | a.0.1: | a.0.1.2: X | a.0.1.2:`,
		"1*2": `a a.0 | X | a: X a.0 | a.0: X | a.0:`,
		"2*4": `a a.0 a.0.1 | X | a: X X a.0 | a.0: X a.0.1 | a.0: | a.0.1: X | a.0.1:`,
		"2*2": `a | X | a: X X`,
		"*0":  `a | X | a:`,
		"0*0": `a | X | a:`,
		"5*5": `a | X | a: X X X X X`,
		"4*5": `a a.0 | X | a: X X X X a.0 | a.0: X | a.0:`,
	} {
		for _, x := range []string{`"x"`, `%x78`, `%x78-79`} {
			is(t, `a = `+of+x, "a", strings.ReplaceAll(want, "X", x))
		}
		is(t, `a = `+of+`b | b = "y"`, "a | b", strings.ReplaceAll(want, "X", "b"))
		// Behind other elements, in an alternative that is not the first one.
		text := strings.Replace(strings.ReplaceAll(want, "X", "b"), "| b | a:", `| b "q" | a: "q" | a: "q" "q"`, 1)
		is(t, `a = "q" / "q" "q" `+of+`b | b = "y"`, "a | b", text)
	}
	is(t, `a = *b | b = "y"`, "a", `a b a.0 | "y" | a: a.0 | b: "y" | a.0: b a.0 | a.0:`)
	is(t, `a = 2a [a]`, "a", `a a.0 | | a: a a a.0 | a.0: a | a.0:`)
}

// M3: what has several symbols, or none, is repeated as a group.
func TestRepeatedGroups(t *testing.T) {
	// An Alt and a Seq are one symbol: the group of them.
	is(t, `a = *("x" / "y")`, "a", `a a.0 a.1 | "x" "y" | a: a.1 | a.0: "x" | a.0: "y" | a.1: a.0 a.1 | a.1:`)
	is(t, `a = 2("x" "y")`, "a", `a a.0 | "x" "y" | a: a.0 a.0 | a.0: "x" "y"`)
	is(t, `a = ["x" "y"]`, "a", `a a.0 a.1 | "x" "y" | a: a.1 | a.0: "x" "y" | a.1: a.0 | a.1:`)
	is(t, `a = *(2"x")`, "a", `a a.0 a.1 | "x" | a: a.1 | a.0: "x" "x" | a.1: a.0 a.1 | a.1:`)
	is(t, `a = 1*2(1*2"x")`, "a", `a a.0 a.1 a.2 a.1.3 | "x" | a: a.1 a.2 | a.0: "x" | a.0: | a.1: "x" a.1.3 | a.2: a.1 | a.2: | a.1.3: "x" | a.1.3:`)
	is(t, `a = 1*(1*"x") "z"`, "a", `a a.0 a.1 a.2 a.1.3 | "x" "z" | a: a.1 a.2 "z" | a.0: "x" a.0 | a.0: | a.1: "x" a.1.3 | a.2: a.1 a.2 | a.2: | a.1.3: "x" a.1.3 | a.1.3:`)
	// What has one symbol needs no group.
	is(t, `a = *["x"]`, "a", `a a.0 a.1 | "x" | a: a.1 | a.0: "x" | a.0: | a.1: a.0 a.1 | a.1:`)
	is(t, `a = 2(1(*"x"))`, "a", `a a.0 | "x" | a: a.0 a.0 | a.0: "x" a.0 | a.0:`)
	is(t, `a = 2(1"x") *(1*1(1"y"))`, "a", `a a.0 | "x" "y" | a: "x" "x" a.0 | a.0: "y" a.0 | a.0:`)
	// What has none is a group of nothing.
	is(t, `a = 2(0"x") "y"`, "a", `a a.0 | "x" "y" | a: a.0 a.0 "y" | a.0:`)
	is(t, `a = *(0("x" "y"))`, "a", `a a.0 a.1 a.2 a.1.3 | "x" "y" | a: a.2 | a.0: "x" "y" | a.1: | a.2: a.1 a.2 | a.2: | a.1.3: "x" "y"`)
}

// M3: what was created for the symbols of what is repeated remains, though it is in no production.
func TestWhatRemains(t *testing.T) {
	is(t, `a = 0b | b = "y"`, "a", `a b | "y" | a: | b: "y"`)
	is(t, `a = 0"x"`, "a", `a | "x" | a:`)
	is(t, `a = 0("x" "y") "z"`, "a", `a a.0 | "z" "x" "y" | a: "z" | a.0: "x" "y"`)
	is(t, `a = 0(2"x") "y"`, "a", `a a.0 | "x" "y" | a: "y" | a.0: "x" "x"`)
	is(t, `a = 0(*"x")`, "a", `a a.0 | "x" | a: | a.0: "x" a.0 | a.0:`)
	// The symbols of what is repeated are asked for once more by the group, which has new ones.
	is(t, `a = 2(2("x" / "y"))`, "a", `a a.0 a.1 a.1.2 | "x" "y" | a: a.1 a.1 | a.0: "x" | a.0: "y" | a.1: a.1.2 a.1.2 | a.1.2: "x" | a.1.2: "y"`)
	is(t, `a = 2(2(2("x" / "y")))`, "a", `a a.0 a.1 a.2 a.1.3 a.2.4 a.2.5 a.2.5.6 | "x" "y" | a: a.2 a.2 | a.0: "x" | a.0: "y" | a.1: a.1.3 a.1.3 | a.2: a.2.5 a.2.5 | a.1.3: "x" | a.1.3: "y" | a.2.4: "x" | a.2.4: "y" | a.2.5: a.2.5.6 a.2.5.6 | a.2.5.6: "x" | a.2.5.6: "y"`)
}

// M3: a new rule has the name of the rule whose productions are being created, and the number of those ahead of it, in all.
func TestNewNames(t *testing.T) {
	is(t, `a = *"x" b *"y" | b = *"z" ["x" ("y" / "z")]`, "a", `a b a.0 a.1 b.2 b.3 b.4 b.3.5 | "x" "y" "z" | a: a.0 b a.1 | b: b.2 b.4 | a.0: "x" a.0 | a.0: | a.1: "y" a.1 | a.1: | b.2: "z" b.2 | b.2: | b.3: "x" b.3.5 | b.4: b.3 | b.4: | b.3.5: "y" | b.3.5: "z"`)
	// The numbers are written in decimal digits.
	g := []api.Rule{rule("a", seq(times(120, option(fold("x")))...))}
	s := build(t, g, config("a"))
	for i, name := range s.Names[1:] {
		if name != fmt.Sprint("a.", i) || len(s.Names) != 121 {
			t.Errorf("of %d rules, the rule %d has the name %s", len(s.Names), i+1, name)
		}
	}
	// An option up to n times has a longer name at each time.
	s = build(t, []api.Rule{rule("a", rep(0, 200, fold("x")))}, config("a"))
	name := "a"
	for i := range 201 {
		if len(s.Names) != 201 || s.Names[i] != name {
			t.Fatalf("of %d rules, the rule %d has the name %s, want %s", len(s.Names), i, s.Names[i], name)
		}
		name += fmt.Sprint(".", i)
	}
}

// M2, M3: names may be any texts, as long as no Ref needs them; new rules may have names that rules of the grammar have.
func TestOddNames(t *testing.T) {
	x, y := fold("x"), fold("y")
	g := []api.Rule{rule("a.0", seq(star(ref("a")), star(y))), rule("a", star(x)), rule("", ref("a")), rule("A b", x), rule("a.0", y)}
	toldAs(t, g, "a.0", `a.0 a a.0.0 a.0.1 a.2 | "y" "x" | a.0: a.0.0 a.0.1 | a: a.2 | a.0.0: a a.0.0 | a.0.0: | a.0.1: "y" a.0.1 | a.0.1: | a.2: "x" a.2 | a.2:`)
	s := build(t, g, api.Config{Start: "", Tokens: []string{"a.0"}, Skip: []string{"A b"}})
	if want := ` a a.0 | a.0 ~A b "x" | : a | a: a.0 | a.0: "x" a.0 | a.0:`; told(s) != want {
		t.Errorf("%s, want %s", told(s), want)
	}
	// Of two rules with one name, symbols tell which one is meant.
	g = []api.Rule{rule("a.0", seq(ref("a"), ref("b"))), rule("a", star(x)), rule("b", y)}
	toldAs(t, g, "a.0", `a.0 a b a.0 | "x" "y" | a.0: a b | a: a.0 | b: "y" | a.0: "x" a.0 | a.0:`)
	s = build(t, g, config("a.0"))
	if s.Prods[1].Right[0].N != 3 || s.Prods[3].Left != 3 || s.Prods[3].Right[1].N != 3 {
		t.Errorf("%+v", s)
	}
	toldAs(t, []api.Rule{rule("B", ref("a")), rule("a", x), rule("b", y)}, "B | b", `B a | b "x" | B: a | a: "x"`)
}

// M2, M3: larger grammars, with all of it.
func TestWhole(t *testing.T) {
	is(t, `sum = term *(("+" / "-") term) | term = factor *(("*" / "/") factor) | factor = number / "(" sum ")" | number = 1*digit | ws = " "`, "sum | number | ws",
		`sum term factor sum.0 sum.1 term.2 term.3 sum.0.4 term.2.5 | number ~ws "(" ")" "+" "-" "*" "/" | sum: term sum.1 | term: factor term.3 | factor: number | factor: "(" sum ")" | sum.0: sum.0.4 term | sum.1: sum.0 sum.1 | sum.1: | term.2: term.2.5 factor | term.3: term.2 term.3 | term.3: | sum.0.4: "+" | sum.0.4: "-" | term.2.5: "*" | term.2.5: "/"`)
	is(t, `list = "[" [value *("," value)] "]" | value = list / word / 1*2digit ["." 1*digit] | word = 1*alpha`, "list | word digit",
		`list value list.0 list.1 value.2 value.3 value.4 list.0.5 list.0.6 value.3.7 | word digit "[" "]" "." "," | list: "[" list.1 "]" | value: list | value: word | value: digit value.2 value.4 | list.0: value list.0.6 | list.1: list.0 | list.1: | value.2: digit | value.2: | value.3: "." digit value.3.7 | value.4: value.3 | value.4: | list.0.5: "," value | list.0.6: list.0.5 list.0.6 | list.0.6: | value.3.7: digit value.3.7 | value.3.7:`)
}
