package sense_test

import (
	"fmt"
	"slices"
	"strings"
	"testing"

	"reglet/api"
	"reglet/reader"
	"reglet/sense"
)

const greatest = 1114111

func ref(name string) api.Expr      { return api.Expr{Kind: 4, Text: name} }
func fold(text string) api.Expr     { return api.Expr{Kind: 5, Text: text} }
func nums(n ...int) api.Expr        { return api.Expr{Kind: 6, N: n} }
func span(lo, hi int) api.Expr      { return api.Expr{Kind: 7, N: []int{lo, hi}} }
func alt(kids ...api.Expr) api.Expr { return api.Expr{Kind: 1, Kids: kids} }
func seq(kids ...api.Expr) api.Expr { return api.Expr{Kind: 2, Kids: kids} }
func option(e api.Expr) api.Expr    { return rep(0, 1, e) }

func rep(least, most int, kids ...api.Expr) api.Expr {
	return api.Expr{Kind: 3, Min: least, Max: most, Kids: kids}
}

func rule(name string, e api.Expr) api.Rule { return api.Rule{Name: name, Expr: e} }

// deep encloses an expression in so many others.
func deep(e api.Expr, depth int, around func(api.Expr) api.Expr) api.Expr {
	for range depth {
		e = around(e)
	}
	return e
}

func short(v any) string {
	s := fmt.Sprintf("%+v", v)
	if len(s) > 400 {
		s = s[:200] + " .. " + s[len(s)-200:]
	}
	return s
}

// rules returns the rules of a text, of which each part between two bars is one.
func rules(t *testing.T, text string) []api.Rule {
	t.Helper()
	l, e := reader.Read(strings.ReplaceAll(text, " | ", "\n"))
	if e != api.OK {
		t.Fatalf("%q: error %d of Read", text, e)
	}
	g := make([]api.Rule, len(l))
	for i, one := range l {
		g[i] = rule(one.Name, one.Expr)
	}
	return g
}

// from returns the numbers from one to another one.
func from(lo, hi int) []int {
	var l []int
	for n := lo; n <= hi; n++ {
		l = append(l, n)
	}
	return l
}

// ends asks where a rule ends.
func ends(t *testing.T, g []api.Rule, name, s string, utf bool, want ...int) {
	t.Helper()
	if got := sense.Ends(g, name, s, utf); !slices.Equal(got, want) {
		t.Errorf("%s, %q in %q, utf %v: %s, want %s", short(g), name, short(s), utf, short(got), short(want))
	}
}

// both asks the same with utf and without.
func both(t *testing.T, g []api.Rule, name, s string, want ...int) {
	t.Helper()
	ends(t, g, name, s, false, want...)
	ends(t, g, name, s, true, want...)
}

// alone asks where an expression ends that is the rule a, with utf and without.
func alone(t *testing.T, e api.Expr, s string, want ...int) {
	t.Helper()
	both(t, []api.Rule{rule("a", e)}, "a", s, want...)
}

// told asks where the rule a of a text ends, with utf and without.
func told(t *testing.T, text, s string, want ...int) {
	t.Helper()
	both(t, rules(t, text), "a", s, want...)
}
