package syntax_test

import (
	"fmt"
	"slices"
	"strings"
	"testing"

	"reglet/api"
	"reglet/sense"
)

// words calls f with all strings of up to so many of some bytes, the empty one first.
func words(signs string, longest int, f func(string)) {
	f("")
	if longest > 0 {
		for i := range len(signs) {
			words(signs, longest-1, func(s string) { f(signs[i:i+1] + s) })
		}
	}
}

// sensed asks layer 6 whether a rule derives a string.
func sensed(g []api.Rule, name, s string, utf bool) bool {
	return slices.Contains(sense.Ends(g, name, s, utf), len(s))
}

// asRules makes rules of a syntax again: n-0 derives what its productions derive. The rules of the grammar are behind them, for the tokens that have names.
func asRules(g []api.Rule, s api.Syntax) []api.Rule {
	alternatives := make([][]api.Expr, len(s.Names))
	for _, p := range s.Prods {
		elements := []api.Expr{fold(""), fold("")}
		for _, x := range p.Right {
			if x.Token {
				elements = append(elements, s.Tokens[x.N].Expr)
			} else {
				elements = append(elements, ref(fmt.Sprint("n-", x.N)))
			}
		}
		alternatives[p.Left] = append(alternatives[p.Left], seq(elements...))
	}
	var l []api.Rule
	for i, kids := range alternatives {
		e := kids[0]
		if len(kids) > 1 {
			e = alt(kids...)
		}
		l = append(l, rule(fmt.Sprint("n-", i), e))
	}
	return append(l, g...)
}

// derivesSame asks for all short strings of some bytes whether the productions and the grammar derive them alike. It returns how many are derived.
func derivesSame(t *testing.T, g []api.Rule, c api.Config, s api.Syntax, signs string, longest int) int {
	t.Helper()
	n := 0
	again := asRules(g, s)
	words(signs, longest, func(text string) {
		for _, utf := range []bool{false, true} {
			got, want := sensed(again, "n-0", text, utf), sensed(g, c.Start, text, utf)
			if got != want {
				t.Errorf("%+v of %s, utf %v: the productions %s derive %q: %v", c, short(g), utf, short(told(s)), text, got)
			}
			if want {
				n++
			}
		}
	})
	return n
}

// M4: what productions derive the grammar derives, and nothing of it is missing.
func TestDerivesSame(t *testing.T) {
	for _, text := range []string{
		`a = "x" *b | b = "y"`,
		`a = "x" a "y" / ""`,
		`a = a a / "x" / "y" b | b = [a] "y"`,
		`a = 2*3("x" / b) | b = *(2"y")`,
		`a = *(["x"] ["y"])`,
		`a = 0("x" / none-0) "y" | none-0 = "x"`,
		`a = 1*2(1*2(1*2"x")) "y"`,
		`a = 2(1*(b "x")) | b = "y" / ""`,
		`a = *4(*"x" "y")`,
		`a = b c | b = *"x" | c = b ["y" a]`,
		`a = b b / %d120.121 | b = %d120-121 / "" / c c | c = 1*1("x") *1("y")`,
		`a = a | b = "x"`,
		`a = "x" a | b = "y"`,
		`a = %x100 / [b] | b = %xE9`,
	} {
		g := rules(t, text)
		for _, c := range []string{"a", "a | b"} {
			if !strings.Contains(text, "b = ") && c != "a" {
				continue
			}
			derivesSame(t, g, config(c), build(t, g, config(c)), "xy", 6)
		}
	}
}

// M4: the same for drawn rules and configs.
func TestDerivesSameDrawn(t *testing.T) {
	d := newDraw(3)
	derived, built := 0, 0
	for range 700 {
		n := 1 + d.IntN(4)
		g := d.rules(n, 3, n)
		c := d.config(drawnNames[:n])
		s, errno := modelBuild(g, c)
		if errno == api.OK && len(s.Prods) < 300 {
			built++
			derived += derivesSame(t, g, c, build(t, g, c), "xXy\xc3\xa9\xe9"[:2+d.IntN(5)], 3)
		}
	}
	if built < 300 || derived < 5000 {
		t.Errorf("only %d were built, and %d strings derived", built, derived)
	}
}

// depths tells of each rule and of each production how many steps deep something is that it derives, or -1 if it derives nothing.
func depths(s api.Syntax) (rules, prods []int) {
	rules = slices.Repeat([]int{-1}, len(s.Names))
	prods = slices.Repeat([]int{-1}, len(s.Prods))
	for changed := true; changed; {
		changed = false
		for i, p := range s.Prods {
			depth := 1
			for _, x := range p.Right {
				switch {
				case x.Token || depth < 0:
				case rules[x.N] < 0:
					depth = -1
				default:
					depth = max(depth, rules[x.N]+1)
				}
			}
			if depth > 0 && prods[i] < 0 {
				prods[i], changed = depth, true
				if rules[p.Left] < 0 {
					rules[p.Left] = depth
				}
			}
		}
	}
	return
}

// sentence draws a sequence of tokens that the productions derive.
func (d draw) sentence(s api.Syntax, depths []int, left, room int) (l []int) {
	var all, best []int
	for i, p := range s.Prods {
		if p.Left == left && depths[i] > 0 {
			all = append(all, i)
			if len(best) == 0 || depths[i] < depths[best[0]] {
				best = []int{i}
			}
		}
	}
	if room < 0 {
		all = best
	}
	for _, x := range s.Prods[all[d.IntN(len(all))]].Right {
		if x.Token {
			l = append(l, x.N)
		} else {
			l = append(l, d.sentence(s, depths, x.N, room-1)...)
		}
	}
	return
}

// M4: the tokens of a drawn sequence that the productions derive are replaced by strings that they derive by layer 6.
func TestSentences(t *testing.T) {
	d := newDraw(4)
	asked, longest := 0, 0
	for range 1500 {
		n := 1 + d.IntN(4)
		g := d.rules(n, 4, n)
		c := d.config(drawnNames[:n])
		s, errno := modelBuild(g, c)
		if errno != api.OK || len(s.Prods) > 300 {
			continue
		}
		s = build(t, g, c)
		depthOfRules, depthOfProds := depths(s)
		if depthOfRules[0] < 0 {
			continue
		}
		utf := d.IntN(2) == 0
		texts := tokenTexts(g, s, utf)
		for range 5 {
			text, ok := d.spelt(d.sentence(s, depthOfProds, 0, 6), texts)
			if !ok || len(text) > 300 {
				continue
			}
			asked++
			longest = max(longest, len(text))
			if !sensed(g, c.Start, text, utf) {
				t.Errorf("%+v of %s, utf %v: the productions %s derive %q, the grammar does not", c, short(g), utf, short(told(s)), text)
			}
		}
	}
	if asked < 1500 || longest < 50 {
		t.Errorf("only %d strings were asked, the longest of %d bytes", asked, longest)
	}
}

// tokenTexts returns some short strings that each token derives.
func tokenTexts(g []api.Rule, s api.Syntax, utf bool) [][]string {
	l := make([][]string, len(s.Tokens))
	for i, token := range s.Tokens {
		again := append([]api.Rule{rule("the-token", token.Expr)}, g...)
		words("xXy\xc3\xa9\xe9", 2, func(text string) {
			if sensed(again, "the-token", text, utf) {
				l[i] = append(l[i], text)
			}
		})
	}
	return l
}

// spelt replaces tokens by strings, unless one has none.
func (d draw) spelt(tokens []int, texts [][]string) (string, bool) {
	var b strings.Builder
	for _, i := range tokens {
		if len(texts[i]) == 0 {
			return "", false
		}
		b.WriteString(texts[i][d.IntN(len(texts[i]))])
	}
	return b.String(), true
}
