package lexeme_test

import (
	"slices"
	"testing"

	"reglet/api"
	"reglet/deriv"
	"reglet/grammar"
	"reglet/lexeme"
	"reglet/regex"
	"reglet/sense"
	"reglet/teller"
)

// all holds a regular expression against layer 6: of a string, all prefixes are derived whose lengths are among the ends.
func all(t *testing.T, g []api.Rule, e api.Expr, r api.Re, utf bool, s string) (derived int) {
	t.Helper()
	ends := sense.Ends(append(slices.Clip(g), rule("the-whole", e)), "the-whole", s, utf)
	left := r
	for n := range len(s) + 1 {
		if deriv.Nullable(left) != slices.Contains(ends, n) {
			t.Fatalf("%s of %s, utf %v: %s and %q: not the ends %v", short(e), short(g), utf, short(regex.Text(r)), s[:n], ends)
		}
		if n < len(s) {
			left = deriv.Deriv(left, int(s[n]))
		}
	}
	return len(ends)
}

// L2: in written grammars, all short strings of some bytes.
func TestAllStrings(t *testing.T) {
	for _, x := range []struct{ rules, signs string }{
		{`a = *(*"x" *"y") | b = 2*3(["x"] "y") | c = 2("x" / "xx") "y"`, "xXy"},
		{`a = *%xE9 | b = 1*%xC3-E9 | c = %xC3.A9 | d = *(b / c)`, "\xc3\xa9\xe9"},
		{`a = "[" / "{" / "@" / %x60 | b = "k@[" / "k" | c = *a`, "[{@`"},
		{`a = b / 2b / 3c | b = "x" / ["y"] | c = *b "x"`, "xy"},
		{`a = 1*2(1*2(1*2"x")) | b = *2(*2(*2"x")) | c = 1*(1*(1*"x" "y") "y")`, "xy"},
		{`a = *4[*"x" "y"] | b = 3*[2"x"] | c = 2*3[["x"] "y"] | d = 4*5("" / "x" / "xy")`, "xy"},
		{`a = %xA8-E9 | b = *a | c = 2a | d = a / %xC3 / %xA9`, "\xc3\xa9\xa8\xe9"},
		{`a = 0"x" / "y" 0b | b = 0("x" 2a2) / 0*0"y" "x" | a2 = "x"`, "xy"},
		{`a = (("x" / "y") "x" / "x") / "y" ("x" "y") | b = a / (a a) / [a [a]]`, "xy"},
	} {
		g := rules(t, x.rules)
		derived := 0
		for _, r := range g[:len(g)-len(grammar.Core())] {
			for _, utf := range []bool{false, true} {
				re := regexOf(t, g, r.Expr, utf)
				words(x.signs, 6, func(s string) {
					if len(s) == 6 {
						derived += all(t, g, r.Expr, re, utf, s)
					}
				})
			}
		}
		if derived == 0 {
			t.Errorf("%s derives nothing", x.rules)
		}
	}
}

// L1, L2: drawn grammars, and all short strings of some bytes.
func TestDrawn(t *testing.T) {
	d := newDraw(2)
	derived := 0
	for range 500 {
		g := d.rules(1+d.IntN(4), 3, true)
		e := d.expr(d.IntN(3), 3, []string{"a"})
		for _, utf := range []bool{false, true} {
			r := regexOf(t, g, e, utf)
			words("xX\xc3\xa9", 3, func(s string) {
				if len(s) == 3 {
					derived += all(t, g, e, r, utf, s)
				}
			})
		}
	}
	if derived < 30000 {
		t.Errorf("only %d were derived", derived)
	}
}

// L1, L2: drawn grammars, strings that they derive, and such that are spoilt.
func TestDrawnStrings(t *testing.T) {
	d := newDraw(3)
	derived, not := 0, 0
	for range 700 {
		g := d.rules(1+d.IntN(5), 4, true)
		e := d.expr(d.IntN(3), 4, []string{"a"})
		utf := d.IntN(2) == 0
		r, errno := lexeme.Regex(g, e, utf)
		if errno == api.ErrLong && writtenOut(g, e) > api.MaxRe {
			continue
		}
		if errno != api.OK || !regex.Right(r) {
			t.Fatalf("%s of %s: error %d, %s", short(e), short(g), errno, short(regex.Text(r)))
		}
		for range 8 {
			s, ok := d.text(g, e, utf)
			if len(s) > 40 {
				continue
			}
			if ok && !deriv.Match(r, s) {
				t.Fatalf("%s of %s, utf %v: %s does not derive %q", short(e), short(g), utf, short(regex.Text(r)), s)
			}
			all(t, g, e, r, utf, s)
			if wrong := d.spoilt(s); sensed(g, e, utf, wrong) {
				derived++
				all(t, g, e, r, utf, wrong)
			} else {
				not++
				all(t, g, e, r, utf, wrong)
			}
		}
	}
	if derived < 300 || not < 1000 {
		t.Errorf("of those that were spoilt, %d were derived and %d were not", derived, not)
	}
}

// L1: drawn rules with loops, names without rules, and things that are not valid: the first error that applies.
func TestDrawnErrors(t *testing.T) {
	d := newDraw(4)
	count := map[api.Errno]int{}
	for range 20000 {
		g := d.rules(1+d.IntN(5), 2, false)
		e := d.expr(d.IntN(3), 2, drawnNames)
		if d.IntN(4) == 0 {
			d.spoil(&g[d.IntN(len(g))].Expr)
		}
		if d.IntN(8) == 0 {
			d.spoil(&e)
		}
		want := firstError(g, e)
		r, errno := lexeme.Regex(g, e, d.IntN(2) == 0)
		if errno != want || (errno != api.OK && !same(r, api.Re{})) {
			t.Fatalf("%s of %s: error %d, want %d", short(e), short(g), errno, want)
		}
		count[errno]++
	}
	for _, errno := range []api.Errno{api.OK, api.ErrArg, api.ErrName, api.ErrLoop} {
		if count[errno] < 500 {
			t.Errorf("the errors were %v", count)
		}
	}
}

// spoil changes something in an expression, which then may be not valid.
func (d draw) spoil(e *api.Expr) {
	for len(e.Kids) > 0 && d.IntN(3) > 0 {
		e = &e.Kids[d.IntN(len(e.Kids))]
	}
	switch d.IntN(6) {
	case 0:
		e.Kind = d.IntN(9)
	case 1:
		e.Text = []string{"", "A", "a", "\x00"}[d.IntN(4)]
	case 2:
		e.N = [][]int{nil, {1}, {2, 1}, {greatest + 1}}[d.IntN(4)]
	case 3:
		e.Min = d.IntN(4) - 1
	case 4:
		e.Max = d.IntN(4) - 2
	case 5:
		e.Kids = e.Kids[:len(e.Kids)/2]
	}
}

// firstError is L1 word for word.
func firstError(g []api.Rule, e api.Expr) api.Errno {
	for _, r := range g {
		if !teller.Right(r.Expr) {
			return api.ErrArg
		}
	}
	if !teller.Right(e) {
		return api.ErrArg
	}
	reached := reachedFrom(g, e)
	for _, name := range reached {
		if grammar.Find(g, name) < 0 {
			return api.ErrName
		}
	}
	for _, name := range reached {
		if slices.Contains(reachedFrom(g, g[grammar.Find(g, name)].Expr), name) {
			return api.ErrLoop
		}
	}
	if writtenOut(g, e) > api.MaxRe {
		return api.ErrLong
	}
	return api.OK
}

// reachedFrom returns the names that are reached from an expression.
func reachedFrom(g []api.Rule, e api.Expr) []string {
	var reached []string
	left := grammar.Names(e)
	for len(left) > 0 {
		name := left[0]
		left = left[1:]
		if !slices.Contains(reached, name) {
			reached = append(reached, name)
			if i := grammar.Find(g, name); i >= 0 {
				left = append(left, grammar.Names(g[i].Expr)...)
			}
		}
	}
	return reached
}

// L2: the same arguments give the same expression, also if they are in other memory, and other rules that are not reached change nothing.
func TestSameAgain(t *testing.T) {
	d := newDraw(5)
	for range 1000 {
		g := d.rules(1+d.IntN(5), 3, true)
		e := d.expr(d.IntN(4), 3, []string{"a"})
		utf := d.IntN(2) == 0
		r, errno := lexeme.Regex(g, e, utf)
		for _, other := range [][]api.Rule{g, copiedRules(g), append(copiedRules(g), rule("f", ref("a")), rule("a", ref("none"))), append([]api.Rule{rule("f", ref("f")), rule("A", ref("none"))}, g...)} {
			again, errnoAgain := lexeme.Regex(other, copiedExpr(e), utf)
			if errno != errnoAgain || !same(r, again) {
				t.Errorf("%s of %s: %s, then %s", short(e), short(g), short(regex.Text(r)), short(regex.Text(again)))
			}
		}
	}
}

func copiedRules(g []api.Rule) []api.Rule {
	g = slices.Clone(g)
	for i := range g {
		g[i].Expr = copiedExpr(g[i].Expr)
	}
	return g
}

func copiedExpr(e api.Expr) api.Expr {
	e.N = slices.Clone(e.N)
	e.Kids = slices.Clone(e.Kids)
	for i, k := range e.Kids {
		e.Kids[i] = copiedExpr(k)
	}
	return e
}
