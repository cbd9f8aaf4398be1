package firsts

import "reglet/api"

// heads returns the FIRST set of a list of symbols. It visits the rules with which that may begin, and no others, since it may be asked of each production.
func heads(s api.Syntax, empty set, l []api.Sym) []int {
	var owned []link
	for i, p := range s.Prods {
		owned = append(owned, link{p.Left, i})
	}
	prods := newLinks(len(s.Names), owned)
	tokens, rules := make(set, len(s.Tokens)), make(set, len(s.Names))
	visit := func(open []int, l []api.Sym) []int {
		for _, x := range empty.head(l) {
			if x.Token {
				tokens.add(x.N)
			} else if rules.add(x.N) {
				open = append(open, x.N)
			}
		}
		return open
	}
	settle(visit(nil, l), func(open []int, rule int) []int {
		for _, i := range prods.of(rule) {
			open = visit(open, s.Prods[i].Right)
		}
		return open
	})
	return tokens.numbers()
}
