package firsts_test

import (
	"fmt"
	"slices"
	"strings"
	"testing"

	"reglet/api"
	"reglet/firsts"
)

func tok(n int) api.Sym { return api.Sym{Token: true, N: n} }
func non(n int) api.Sym { return api.Sym{N: n} }

func prod(left int, right ...api.Sym) api.Prod { return api.Prod{Left: left, Right: right} }

// of makes a syntax of names, of names of tokens, and of productions with bars between, like "a: b x | b:".
func of(names, tokens, prods string) api.Syntax {
	s := api.Syntax{Names: strings.Fields(names)}
	for _, name := range strings.Fields(tokens) {
		s.Tokens = append(s.Tokens, api.Token{Name: name})
	}
	s.Named = len(s.Tokens)
	for _, text := range strings.Split(prods, " | ") {
		if left, right, ok := strings.Cut(text, ":"); ok {
			s.Prods = append(s.Prods, prod(slices.Index(s.Names, left), list(s, right)...))
		}
	}
	return s
}

// list makes a list of symbols of their names.
func list(s api.Syntax, text string) []api.Sym {
	var l []api.Sym
	for _, name := range strings.Fields(text) {
		if i := slices.Index(s.Names, name); i >= 0 {
			l = append(l, non(i))
		} else {
			l = append(l, tok(slices.IndexFunc(s.Tokens, func(t api.Token) bool { return t.Name == name })))
		}
	}
	return l
}

// numbered makes a syntax of so many rules and tokens.
func numbered(names, tokens int, prods ...api.Prod) api.Syntax {
	return api.Syntax{Names: make([]string, names), Tokens: make([]api.Token, tokens), Prods: prods}
}

// named returns the names of tokens, of which the end is $.
func named(s api.Syntax, l []int) string {
	var names []string
	for _, n := range l {
		switch {
		case n == len(s.Tokens):
			names = append(names, "$")
		case n < 0 || n > len(s.Tokens):
			names = append(names, fmt.Sprint("(", n, ")"))
		default:
			names = append(names, s.Tokens[n].Name)
		}
	}
	return strings.Join(names, " ")
}

// sets returns the names of the tokens of each set, with bars between.
func sets(s api.Syntax, l [][]int) string {
	var texts []string
	for _, set := range l {
		texts = append(texts, named(s, set))
	}
	return strings.Join(texts, " | ")
}

// yes returns the names of the rules for which a list says true.
func yes(s api.Syntax, l []bool) string {
	if len(l) != len(s.Names) {
		return fmt.Sprint(l)
	}
	var names []string
	for i, name := range s.Names {
		if l[i] {
			names = append(names, name)
		}
	}
	return strings.Join(names, " ")
}

// answers are the answers to all calls about a syntax and a list of symbols.
type answers struct {
	right         bool
	empty, useful []bool
	first, follow [][]int
	of            []int
	all           bool
}

func ask(s api.Syntax, l []api.Sym) answers {
	a := answers{right: firsts.Right(s), empty: firsts.Empty(s), useful: firsts.Useful(s), first: firsts.First(s), follow: firsts.Follow(s)}
	a.of, a.all = firsts.Of(s, l)
	return a
}

func sameSets(a, b [][]int) bool { return slices.EqualFunc(a, b, slices.Equal[[]int]) }

func (a answers) same(b answers) bool {
	return a.right == b.right && slices.Equal(a.empty, b.empty) && slices.Equal(a.useful, b.useful) && sameSets(a.first, b.first) && sameSets(a.follow, b.follow) && slices.Equal(a.of, b.of) && a.all == b.all
}

func short(v any) string {
	s := fmt.Sprintf("%+v", v)
	if len(s) > 600 {
		s = s[:300] + " .. " + s[len(s)-300:]
	}
	return s
}

// agrees asks that the answers be those of the second form.
func agrees(t *testing.T, s api.Syntax, l []api.Sym) {
	t.Helper()
	if got, want := ask(s, l), modelAnswers(s, l); !got.same(want) {
		t.Errorf("%s with %s:\n%s, want\n%s", short(s.Prods), short(l), short(got), short(want))
	}
}
