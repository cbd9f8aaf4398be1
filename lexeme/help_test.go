package lexeme_test

import (
	"fmt"
	"slices"
	"strings"
	"testing"

	"reglet/api"
	"reglet/deriv"
	"reglet/grammar"
	"reglet/lexeme"
	"reglet/reader"
	"reglet/regex"
	"reglet/sense"
)

const greatest = 1114111

func ref(name string) api.Expr      { return api.Expr{Kind: 4, Text: name} }
func fold(text string) api.Expr     { return api.Expr{Kind: 5, Text: text} }
func nums(n ...int) api.Expr        { return api.Expr{Kind: 6, N: n} }
func span(n ...int) api.Expr        { return api.Expr{Kind: 7, N: n} }
func alt(kids ...api.Expr) api.Expr { return api.Expr{Kind: 1, Kids: kids} }
func seq(kids ...api.Expr) api.Expr { return api.Expr{Kind: 2, Kids: kids} }
func option(e api.Expr) api.Expr    { return rep(0, 1, e) }
func star(e api.Expr) api.Expr      { return rep(0, -1, e) }

func rep(least, most int, kids ...api.Expr) api.Expr {
	return api.Expr{Kind: 3, Min: least, Max: most, Kids: kids}
}

func rule(name string, e api.Expr) api.Rule { return api.Rule{Name: name, Expr: e} }

// deep encloses an expression in so many others.
func deep(e api.Expr, depth int, around func(api.Expr) api.Expr) api.Expr {
	for range depth {
		e = around(e)
	}
	return e
}

// chain returns so many rules, from a0 on, each around the name of the next one, and behind them one for the last of these names.
func chain(length int, last api.Expr, around func(api.Expr) api.Expr) []api.Rule {
	var g []api.Rule
	for i := range length {
		g = append(g, rule(fmt.Sprint("a", i), around(ref(fmt.Sprint("a", i+1)))))
	}
	return append(g, rule(fmt.Sprint("a", length), last))
}

func short(v any) string {
	s := fmt.Sprintf("%+v", v)
	if len(s) > 400 {
		s = s[:200] + " .. " + s[len(s)-200:]
	}
	return s
}

// rules returns the rules of a text, of which each part between two bars is one, and the core rules behind them.
func rules(t *testing.T, text string) []api.Rule {
	t.Helper()
	l, e := reader.Read(strings.ReplaceAll(text, " | ", "\n"))
	if e != api.OK {
		t.Fatalf("%q: error %d of Read", text, e)
	}
	var g []api.Rule
	for _, one := range l {
		g = append(g, rule(one.Name, one.Expr))
	}
	return append(g, grammar.Core()...)
}

// same holds two regular expressions against each other, field by field.
func same(a, b api.Re) bool {
	return a.Kind == b.Kind && a.Set == b.Set && slices.EqualFunc(a.Kids, b.Kids, same)
}

// regexOf returns the regular expression of an expression, of which there must be one, which must be valid.
func regexOf(t *testing.T, g []api.Rule, e api.Expr, utf bool) api.Re {
	t.Helper()
	r, errno := lexeme.Regex(g, e, utf)
	if errno != api.OK {
		t.Fatalf("%s of %s: error %d", short(e), short(g), errno)
	}
	if !regex.Right(r) {
		t.Fatalf("%s of %s: %s is not valid", short(e), short(g), short(regex.Text(r)))
	}
	return r
}

// fails asks for an error, without a regular expression.
func fails(t *testing.T, g []api.Rule, e api.Expr, want api.Errno) {
	t.Helper()
	for _, utf := range []bool{false, true} {
		if r, errno := lexeme.Regex(g, e, utf); errno != want || !same(r, api.Re{}) {
			t.Errorf("%s of %s: error %d, want %d, with %s", short(e), short(g), errno, want, short(regex.Text(r)))
		}
	}
}

// derives asks which strings the regular expression of an expression derives, and whether the expression derives the same.
func derives(t *testing.T, g []api.Rule, e api.Expr, utf bool, s string, want bool) {
	t.Helper()
	r := regexOf(t, g, e, utf)
	if deriv.Match(r, s) != want {
		t.Errorf("%s of %s, utf %v: %s derives %s: %v", short(e), short(g), utf, short(regex.Text(r)), short(s), !want)
	}
	if sensed(g, e, utf, s) != want {
		t.Errorf("%s of %s, utf %v, %s: layer 6 says %v", short(e), short(g), utf, short(s), !want)
	}
}

// sensed asks layer 6 whether an expression derives a string: a rule with it has the length of the string among its ends.
func sensed(g []api.Rule, e api.Expr, utf bool, s string) bool {
	g = append(slices.Clip(g), rule("the-whole", e))
	return slices.Contains(sense.Ends(g, "the-whole", s, utf), len(s))
}

// only asks the same with utf and without: a string is derived just if it is one of some.
func only(t *testing.T, g []api.Rule, e api.Expr, signs string, longest int, want func(string) bool) {
	t.Helper()
	for _, utf := range []bool{false, true} {
		r := regexOf(t, g, e, utf)
		words(signs, longest, func(s string) {
			if deriv.Match(r, s) != want(s) {
				t.Errorf("%s of %s, utf %v: %s derives %q: %v", short(e), short(g), utf, short(regex.Text(r)), s, !want(s))
			}
		})
	}
}

// is asks for the regular expression itself, by its text, with utf and without.
func is(t *testing.T, g []api.Rule, e api.Expr, want string) {
	t.Helper()
	for _, utf := range []bool{false, true} {
		if got := regex.Text(regexOf(t, g, e, utf)); got != want {
			t.Errorf("%s of %s, utf %v: %s, want %s", short(e), short(g), utf, short(got), want)
		}
	}
}

// words calls f with all strings of up to so many of some bytes, the empty one first.
func words(signs string, longest int, f func(string)) {
	f("")
	if longest > 0 {
		for i := range len(signs) {
			words(signs, longest-1, func(s string) { f(signs[i:i+1] + s) })
		}
	}
}
