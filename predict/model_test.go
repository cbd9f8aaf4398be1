package predict_test

import (
	"fmt"
	"slices"
	"testing"

	"reglet/api"
	"reglet/firsts"
)

// selectedBy tells of each token, and of the end, whether a production is selected by it.
func selectedBy(s api.Syntax, follow [][]int, p api.Prod) map[int]bool {
	by := map[int]bool{}
	of, all := firsts.Of(s, p.Right)
	for _, token := range of {
		by[token] = true
	}
	if all {
		for _, look := range follow[p.Left] {
			by[look] = true
		}
	}
	return by
}

// model is a second form of O1 and O2, which follows the chapter word for word.
func model(s api.Syntax) answer {
	if !firsts.Right(s) {
		return answer{}
	}
	follow := firsts.Follow(s)
	var by []map[int]bool
	for _, p := range s.Prods {
		by = append(by, selectedBy(s, follow, p))
	}
	var a answer
	for rule := range s.Names {
		row := make([]int, len(s.Tokens)+1)
		for look := range row {
			row[look] = -1
			for i, p := range s.Prods {
				if p.Left != rule || !by[i][look] {
					continue
				}
				if row[look] == -1 {
					row[look] = i
				} else {
					a.clashes = append(a.clashes, api.Clash{Rule: rule, Look: look, One: row[look], Two: i})
				}
			}
		}
		a.table = append(a.table, row)
	}
	return a
}

// rights returns all lists of symbols that are so long at most.
func rights(names, tokens, longest int) [][]api.Sym {
	var all []api.Sym
	for i := range names {
		all = append(all, non(i))
	}
	for i := range tokens {
		all = append(all, tok(i))
	}
	lists := [][]api.Sym{nil}
	for at := 0; at < len(lists); at++ {
		if len(lists[at]) < longest {
			for _, x := range all {
				lists = append(lists, append(slices.Clone(lists[at]), x))
			}
		}
	}
	return lists
}

// everySyntax calls f with all syntaxes of so many rules, tokens and productions, in all their orders, one of them with so many symbols at most.
func everySyntax(names, tokens, prods, longest int, f func(api.Syntax)) {
	var all []api.Prod
	for i := range names {
		for _, r := range rights(names, tokens, longest) {
			all = append(all, prod(i, r...))
		}
	}
	chosen := make([]api.Prod, prods)
	var choose func(at int)
	choose = func(at int) {
		if at == prods {
			f(numbered(names, tokens, chosen...))
			return
		}
		for _, p := range all {
			chosen[at] = p
			choose(at + 1)
		}
	}
	choose(0)
}

// O1 and O2: all syntaxes of a few rules and short productions.
func TestEverySyntax(t *testing.T) {
	for _, c := range []struct{ names, tokens, prods, longest int }{{0, 0, 0, 0}, {0, 2, 0, 0}, {1, 0, 3, 3}, {1, 1, 3, 2}, {1, 1, 2, 4}, {1, 2, 3, 2}, {1, 3, 2, 2}, {2, 0, 3, 2}, {2, 1, 3, 2}, {2, 2, 2, 2}, {3, 0, 2, 2}, {3, 1, 2, 2}} {
		t.Run(fmt.Sprint(c), func(t *testing.T) {
			t.Parallel()
			everySyntax(c.names, c.tokens, c.prods, c.longest, func(s api.Syntax) { agrees(t, s) })
		})
	}
}

// O1 and O2: drawn syntaxes of some rules and tokens.
func TestDrawn(t *testing.T) {
	d := newDraw(1)
	for range 40000 {
		agrees(t, d.small())
	}
	for range 2000 {
		agrees(t, d.syntax(1+d.IntN(40), d.IntN(20), d.IntN(100), 1+d.IntN(8)))
	}
}

// O1 and O2: drawn syntaxes of more tokens than a word has bits.
func TestManyTokens(t *testing.T) {
	d := newDraw(2)
	for _, tokens := range []int{60, 62, 63, 64, 65, 127, 128, 129, 200, 500} {
		for range 30 {
			agrees(t, d.syntax(1+d.IntN(30), tokens, 20+d.IntN(200), 1+d.IntN(6)))
		}
	}
}

// O1 and O2: drawn syntaxes whose conflicts are taken away, one after another, until there is none.
func TestFewConflicts(t *testing.T) {
	d := newDraw(3)
	for range 20000 {
		s := d.small()
		for l := ask(s).clashes; len(l) > 0; l = ask(s).clashes {
			s.Prods = slices.Delete(slices.Clone(s.Prods), l[0].Two, l[0].Two+1)
			agrees(t, s)
		}
	}
}

// O1: drawn syntaxes with a Left or a symbol that is no index.
func TestDrawnWrong(t *testing.T) {
	d := newDraw(4)
	wrong := 0
	for range 20000 {
		s := d.small()
		if len(s.Prods) == 0 {
			continue
		}
		n := d.IntN(12) - 3
		p := &s.Prods[d.IntN(len(s.Prods))]
		if len(p.Right) == 0 || d.IntN(3) == 0 {
			p.Left = n
		} else {
			p.Right[d.IntN(len(p.Right))] = api.Sym{Token: d.IntN(2) == 0, N: n}
		}
		agrees(t, s)
		if !firsts.Right(s) {
			wrong++
		}
	}
	if wrong < 5000 {
		t.Errorf("only %d were wrong", wrong)
	}
}
