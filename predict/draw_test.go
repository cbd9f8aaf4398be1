package predict_test

import (
	"math/rand/v2"

	"reglet/api"
)

// draw draws the same things in each run.
type draw struct{ *rand.Rand }

func newDraw(n uint64) draw { return draw{rand.New(rand.NewPCG(14, n))} }

// syntax draws a syntax of so many rules, tokens and productions, with so many symbols in one at most.
func (d draw) syntax(names, tokens, prods, longest int) api.Syntax {
	s := numbered(names, tokens)
	for range prods {
		if names > 0 {
			s.Prods = append(s.Prods, prod(d.IntN(names), d.symbols(s, longest)...))
		}
	}
	return s
}

// symbols draws a list of symbols of a syntax, which is so long at most.
func (d draw) symbols(s api.Syntax, longest int) []api.Sym {
	var l []api.Sym
	for range d.IntN(longest + 1) {
		if x, ok := d.symbol(s); ok {
			l = append(l, x)
		}
	}
	return l
}

// symbol draws a symbol, if there is one: more often a rule than a token, so that there are rules that are nullable only through others.
func (d draw) symbol(s api.Syntax) (api.Sym, bool) {
	switch names, tokens := len(s.Names), len(s.Tokens); {
	case names > 0 && (tokens == 0 || d.IntN(4) > 0):
		return non(d.IntN(names)), true
	case tokens > 0:
		return tok(d.IntN(tokens)), true
	}
	return api.Sym{}, false
}

// small draws a syntax of a few rules and tokens.
func (d draw) small() api.Syntax {
	names := d.IntN(7)
	return d.syntax(names, d.IntN(5), d.IntN(3*names+1), 1+d.IntN(5))
}
