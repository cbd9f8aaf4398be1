package grammar_test

import (
	"fmt"
	"slices"
	"strings"
	"testing"

	"reglet/api"
	"reglet/grammar"
	"reglet/reader"
	"reglet/teller"
)

const greatest = 1114111

func ref(name string) api.Expr      { return api.Expr{Kind: 4, Text: name} }
func fold(text string) api.Expr     { return api.Expr{Kind: 5, Text: text} }
func nums(n ...int) api.Expr        { return api.Expr{Kind: 6, N: n} }
func span(lo, hi int) api.Expr      { return api.Expr{Kind: 7, N: []int{lo, hi}} }
func alt(kids ...api.Expr) api.Expr { return api.Expr{Kind: 1, Kids: kids} }
func seq(kids ...api.Expr) api.Expr { return api.Expr{Kind: 2, Kids: kids} }
func option(e api.Expr) api.Expr    { return rep(0, 1, e) }

func rep(least, most int, kids ...api.Expr) api.Expr {
	return api.Expr{Kind: 3, Min: least, Max: most, Kids: kids}
}

func line(name string, e api.Expr) api.Line { return api.Line{Name: name, Expr: e} }
func more(name string, e api.Expr) api.Line { return api.Line{Name: name, More: true, Expr: e} }
func rule(name string, e api.Expr) api.Rule { return api.Rule{Name: name, Expr: e} }

// deep encloses an expression in so many others.
func deep(e api.Expr, depth int, around func(api.Expr) api.Expr) api.Expr {
	for range depth {
		e = around(e)
	}
	return e
}

// same holds two expressions against each other, for which a list that is nil is an empty list.
func same(a, b api.Expr) bool {
	return a.Kind == b.Kind && a.Text == b.Text && a.Min == b.Min && a.Max == b.Max &&
		slices.Equal(a.N, b.N) && slices.EqualFunc(a.Kids, b.Kids, same)
}

func sameRule(a, b api.Rule) bool { return a.Name == b.Name && same(a.Expr, b.Expr) }

func sameLine(a, b api.Line) bool {
	return a.Name == b.Name && a.More == b.More && same(a.Expr, b.Expr)
}

func short(v any) string {
	s := fmt.Sprintf("%+v", v)
	if len(s) > 400 {
		s = s[:200] + " .. " + s[len(s)-200:]
	}
	return s
}

// asLines returns rules as the lines of a grammar.
func asLines(g []api.Rule) []api.Line {
	l := make([]api.Line, len(g))
	for i, r := range g {
		l[i] = line(r.Name, r.Expr)
	}
	return l
}

// read returns the lines of a text, of which each part between two bars is one.
func read(t *testing.T, text string) []api.Line {
	t.Helper()
	l, e := reader.Read(strings.ReplaceAll(text, " | ", "\n"))
	if e != api.OK {
		t.Fatalf("%q: error %d of Read", text, e)
	}
	return l
}

// asText returns the text of rules, with bars between them.
func asText(g []api.Rule) string {
	text, e := teller.Tell(asLines(g))
	if e != api.OK {
		return "no text of " + short(g)
	}
	return strings.ReplaceAll(strings.TrimSuffix(text, "\n"), "\n", " | ")
}

// makes asks what rules some lines make.
func makes(t *testing.T, l []api.Line, want []api.Rule) {
	t.Helper()
	got, e := grammar.Join(l)
	if e != api.OK || !slices.EqualFunc(got, want, sameRule) {
		t.Errorf("%s: error %d, rules %s, want %s", short(l), e, short(got), short(want))
	}
}

// joins asks what the text of the rules is that the lines of a text make.
func joins(t *testing.T, text, want string) {
	t.Helper()
	got, e := grammar.Join(read(t, text))
	if e != api.OK || asText(got) != want {
		t.Errorf("%q: error %d, rules %q, want %q", text, e, asText(got), want)
	}
}

// fails asks that some lines have an error, and that no rules come with it.
func fails(t *testing.T, l []api.Line, want api.Errno) {
	t.Helper()
	if got, e := grammar.Join(l); e != want || len(got) != 0 {
		t.Errorf("%s: error %d, want %d, rules %s", short(l), e, want, short(got))
	}
}

// refuses asks the same of a text.
func refuses(t *testing.T, text string, want api.Errno) {
	t.Helper()
	fails(t, read(t, text), want)
}

// reaches asks which names are reached from one, in rules of which a text has each once or more often.
func reaches(t *testing.T, text, name, want string) {
	t.Helper()
	var g []api.Rule
	for _, l := range read(t, text) {
		g = append(g, rule(l.Name, l.Expr))
	}
	if got := grammar.Reach(g, name); !slices.Equal(got, strings.Fields(want)) {
		t.Errorf("%q from %q: %q, want %q", text, name, got, want)
	}
}

// named asks which names an expression has.
func named(t *testing.T, e api.Expr, want ...string) {
	t.Helper()
	if got := grammar.Names(e); !slices.Equal(got, want) {
		t.Errorf("%s: %s, want %s", short(e), short(got), short(want))
	}
}
