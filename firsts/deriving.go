package firsts

import "reglet/api"

// nullable returns the rules that derive the empty list.
func nullable(s api.Syntax) set {
	return deriving(s, func(api.Sym) bool { return false })
}

// deriving returns the rules that have a production of which each symbol is free, or is such a rule.
func deriving(s api.Syntax, free func(api.Sym) bool) set {
	rules := make(set, len(s.Names))
	awaited := make([]int, len(s.Prods)) // how many symbols of each production are neither as yet
	var open []int
	var places []link // from each rule to the productions in which it stands, as often as it does
	for i, p := range s.Prods {
		for _, x := range p.Right {
			if !free(x) {
				awaited[i]++
			}
			if !x.Token {
				places = append(places, link{x.N, i})
			}
		}
		if awaited[i] == 0 && rules.add(p.Left) {
			open = append(open, p.Left)
		}
	}
	prods := newLinks(len(s.Names), places)
	settle(open, func(open []int, rule int) []int {
		for _, i := range prods.of(rule) {
			awaited[i]--
			if left := s.Prods[i].Left; awaited[i] == 0 && rules.add(left) {
				open = append(open, left)
			}
		}
		return open
	})
	return rules
}
