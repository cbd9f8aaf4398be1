package predict_test

import (
	"fmt"
	"slices"
	"strconv"
	"strings"
	"testing"

	"reglet/api"
	"reglet/predict"
)

func tok(n int) api.Sym { return api.Sym{Token: true, N: n} }
func non(n int) api.Sym { return api.Sym{N: n} }

func prod(left int, right ...api.Sym) api.Prod { return api.Prod{Left: left, Right: right} }

// of makes a syntax of names, of names of tokens, and of productions with bars between, like "a: b x | b:".
func of(names, tokens, prods string) api.Syntax {
	s := api.Syntax{Names: strings.Fields(names)}
	for _, name := range strings.Fields(tokens) {
		s.Tokens = append(s.Tokens, api.Token{Name: name})
	}
	s.Named = len(s.Tokens)
	for _, text := range strings.Split(prods, " | ") {
		if left, right, ok := strings.Cut(text, ":"); ok {
			s.Prods = append(s.Prods, prod(slices.Index(s.Names, left), list(s, right)...))
		}
	}
	return s
}

// list makes a list of symbols of their names.
func list(s api.Syntax, text string) []api.Sym {
	var l []api.Sym
	for _, name := range strings.Fields(text) {
		if i := slices.Index(s.Names, name); i >= 0 {
			l = append(l, non(i))
		} else {
			l = append(l, tok(slices.IndexFunc(s.Tokens, func(t api.Token) bool { return t.Name == name })))
		}
	}
	return l
}

// numbered makes a syntax of so many rules and tokens.
func numbered(names, tokens int, prods ...api.Prod) api.Syntax {
	return api.Syntax{Names: make([]string, names), Tokens: make([]api.Token, tokens), Prods: prods}
}

// answer is the answer to a call.
type answer struct {
	table   api.Table
	clashes []api.Clash
}

func ask(s api.Syntax) answer {
	table, clashes := predict.Predict(s)
	return answer{table, clashes}
}

func (a answer) same(b answer) bool {
	return slices.EqualFunc(a.table, b.table, slices.Equal[[]int]) && slices.Equal(a.clashes, b.clashes)
}

// rows tells a table: the productions of each row, with bars between; none is a dot.
func rows(t api.Table) string {
	var texts []string
	for _, row := range t {
		var places []string
		for _, n := range row {
			if n == -1 {
				places = append(places, ".")
			} else {
				places = append(places, strconv.Itoa(n))
			}
		}
		texts = append(texts, strings.Join(places, " "))
	}
	return strings.Join(texts, " | ")
}

// conflicts tells conflicts, like "a x 0 1", with commas between; the end is $.
func conflicts(s api.Syntax, l []api.Clash) string {
	var texts []string
	for _, c := range l {
		look := "$"
		switch {
		case c.Look < 0 || c.Look > len(s.Tokens):
			look = fmt.Sprint("(", c.Look, ")")
		case c.Look < len(s.Tokens):
			look = s.Tokens[c.Look].Name
		}
		texts = append(texts, fmt.Sprint(s.Names[c.Rule], " ", look, " ", c.One, " ", c.Two))
	}
	return strings.Join(texts, ", ")
}

func short(v any) string {
	s := fmt.Sprintf("%+v", v)
	if len(s) > 600 {
		s = s[:300] + " .. " + s[len(s)-300:]
	}
	return s
}

// agrees asks that the answer be that of the second form.
func agrees(t *testing.T, s api.Syntax) {
	t.Helper()
	if got, want := ask(s), model(s); !got.same(want) {
		t.Errorf("%s:\n%s, want\n%s", short(s.Prods), short(got), short(want))
	}
}
