package syntax_test

import (
	"fmt"
	"slices"
	"strings"
	"testing"

	"reglet/api"
	"reglet/grammar"
	"reglet/reader"
	"reglet/syntax"
	"reglet/teller"
)

const (
	greatest = 1114111

	// most is how many productions, and rules, there may be.
	most = 3000
)

func ref(name string) api.Expr      { return api.Expr{Kind: 4, Text: name} }
func fold(text string) api.Expr     { return api.Expr{Kind: 5, Text: text} }
func nums(n ...int) api.Expr        { return api.Expr{Kind: 6, N: n} }
func span(n ...int) api.Expr        { return api.Expr{Kind: 7, N: n} }
func alt(kids ...api.Expr) api.Expr { return api.Expr{Kind: 1, Kids: kids} }
func seq(kids ...api.Expr) api.Expr { return api.Expr{Kind: 2, Kids: kids} }
func option(e api.Expr) api.Expr    { return rep(0, 1, e) }
func star(e api.Expr) api.Expr      { return rep(0, -1, e) }

func rep(least, most int, kids ...api.Expr) api.Expr {
	return api.Expr{Kind: 3, Min: least, Max: most, Kids: kids}
}

func rule(name string, e api.Expr) api.Rule { return api.Rule{Name: name, Expr: e} }

// times returns a list of so many times an expression.
func times(n int, e api.Expr) []api.Expr { return slices.Repeat([]api.Expr{e}, n) }

// deep encloses an expression in so many others.
func deep(e api.Expr, depth int, around func(api.Expr) api.Expr) api.Expr {
	for range depth {
		e = around(e)
	}
	return e
}

// chain returns so many rules, from a0 on, each around the name of the next one, but the last one, which has an expression of its own.
func chain(length int, last api.Expr, around func(api.Expr) api.Expr) []api.Rule {
	var g []api.Rule
	for i := range length - 1 {
		g = append(g, rule(fmt.Sprint("a", i), around(ref(fmt.Sprint("a", i+1)))))
	}
	return append(g, rule(fmt.Sprint("a", length-1), last))
}

func same(e api.Expr) api.Expr { return e }

// config makes a config of a text: the start, the tokens and what is skipped, with bars between.
func config(text string) api.Config {
	l := strings.Split(text+"||", "|")
	return api.Config{Start: strings.TrimSpace(l[0]), Tokens: strings.Fields(l[1]), Skip: strings.Fields(l[2])}
}

func short(v any) string {
	s := fmt.Sprintf("%+v", v)
	if len(s) > 400 {
		s = s[:200] + " .. " + s[len(s)-200:]
	}
	return s
}

// rules returns the rules of a text, of which each part between two bars is one, and the core rules behind them.
func rules(t *testing.T, text string) []api.Rule {
	t.Helper()
	l, e := reader.Read(strings.ReplaceAll(text, " | ", "\n"))
	if e != api.OK {
		t.Fatalf("%q: error %d of Read", text, e)
	}
	var g []api.Rule
	for _, one := range l {
		g = append(g, rule(one.Name, one.Expr))
	}
	return append(g, grammar.Core()...)
}

func sameExpr(a, b api.Expr) bool {
	return a.Kind == b.Kind && a.Text == b.Text && a.Min == b.Min && a.Max == b.Max && slices.Equal(a.N, b.N) && slices.EqualFunc(a.Kids, b.Kids, sameExpr)
}

func sameRule(a, b api.Rule) bool { return a.Name == b.Name && sameExpr(a.Expr, b.Expr) }

func sameToken(a, b api.Token) bool { return a.Name == b.Name && sameExpr(a.Expr, b.Expr) }

func sameProd(a, b api.Prod) bool { return a.Left == b.Left && slices.Equal(a.Right, b.Right) }

// sameSyntax holds two syntaxes against each other, field by field.
func sameSyntax(a, b api.Syntax) bool {
	return slices.Equal(a.Names, b.Names) && slices.EqualFunc(a.Tokens, b.Tokens, sameToken) && a.Skip == b.Skip && a.Named == b.Named && slices.EqualFunc(a.Prods, b.Prods, sameProd)
}

// exprText returns the text of a valid expression.
func exprText(e api.Expr) string {
	s, errno := teller.Tell([]api.Line{{Name: "a", Expr: e}})
	if errno != api.OK {
		return fmt.Sprintf("(%+v)", e)
	}
	return strings.TrimSuffix(strings.TrimPrefix(s, "a = "), "\n")
}

// tokenText returns the name of a token, behind a ~ if it is skipped, or the text of its expression.
func tokenText(s api.Syntax, i int) string {
	token := s.Tokens[i]
	switch {
	case i >= s.Named && token.Name == "":
		return exprText(token.Expr)
	case i >= s.Named || !sameExpr(token.Expr, ref(token.Name)):
		return fmt.Sprintf("(%+v)", token)
	case i >= s.Named-s.Skip:
		return "~" + token.Name
	}
	return token.Name
}

// told returns the names, the tokens and the productions of a syntax in one line.
func told(s api.Syntax) string {
	out := strings.Join(s.Names, " ") + " |"
	for i := range s.Tokens {
		out += " " + tokenText(s, i)
	}
	for _, p := range s.Prods {
		out += " | " + s.Names[p.Left] + ":"
		for _, x := range p.Right {
			if x.Token {
				out += " " + tokenText(s, x.N)
			} else {
				out += " " + s.Names[x.N]
			}
		}
	}
	return out
}

// build asks for a syntax, of which there must be one.
func build(t *testing.T, g []api.Rule, c api.Config) api.Syntax {
	t.Helper()
	s, errno := syntax.Build(g, c)
	if errno != api.OK {
		t.Fatalf("%+v of %s: error %d", c, short(g), errno)
	}
	return s
}

// is asks for the syntax itself, of the rules of a text.
func is(t *testing.T, text, c, want string) {
	t.Helper()
	if got := told(build(t, rules(t, text), config(c))); got != want {
		t.Errorf("%s of %s:\n%s, want\n%s", c, text, short(got), short(want))
	}
}

// counts asks how many rules and productions there are.
func counts(t *testing.T, g []api.Rule, c api.Config, names, prods int) {
	t.Helper()
	if s := build(t, g, c); len(s.Names) != names || len(s.Prods) != prods {
		t.Errorf("%+v of %s: %d rules and %d productions, want %d and %d", c, short(g), len(s.Names), len(s.Prods), names, prods)
	}
}

// fails asks for an error, without a syntax.
func fails(t *testing.T, g []api.Rule, c api.Config, want api.Errno) {
	t.Helper()
	if s, errno := syntax.Build(g, c); errno != want || !sameSyntax(s, api.Syntax{}) {
		t.Errorf("%+v of %s: error %d, want %d, with %s", c, short(g), errno, want, short(s))
	}
}

// refuses asks the same of the rules of a text.
func refuses(t *testing.T, text, c string, want api.Errno) {
	t.Helper()
	fails(t, rules(t, text), config(c), want)
}
