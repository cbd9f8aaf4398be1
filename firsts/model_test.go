package firsts_test

import (
	"fmt"
	"maps"
	"slices"
	"testing"

	"reglet/api"
	"reglet/firsts"
)

// numbers are a set of numbers.
type numbers map[int]struct{}

func (n numbers) has(x int) bool {
	_, ok := n[x]
	return ok
}

// join adds all numbers of another set, and tells whether that adds anything.
func (n numbers) join(more numbers) bool {
	was := len(n)
	maps.Copy(n, more)
	return len(n) > was
}

func one(x int) numbers { return numbers{x: struct{}{}} }

func (n numbers) ascending() []int { return slices.Sorted(maps.Keys(n)) }

func modelRight(s api.Syntax) bool {
	for _, p := range s.Prods {
		if p.Left < 0 || p.Left >= len(s.Names) {
			return false
		}
		if !modelIndices(s, p.Right) {
			return false
		}
	}
	return true
}

func modelIndices(s api.Syntax, l []api.Sym) bool {
	for _, x := range l {
		if x.N < 0 || x.Token && x.N >= len(s.Tokens) || !x.Token && x.N >= len(s.Names) {
			return false
		}
	}
	return true
}

// modelDerives tells for each rule whether it has a production of which all symbols are rules for which that holds, or of a kind.
func modelDerives(s api.Syntax, kind func(api.Sym) bool) []bool {
	holds := make([]bool, len(s.Names))
	for changed := true; changed; {
		changed = false
		for _, p := range s.Prods {
			if !holds[p.Left] && !slices.ContainsFunc(p.Right, func(x api.Sym) bool { return !kind(x) && (x.Token || !holds[x.N]) }) {
				holds[p.Left], changed = true, true
			}
		}
	}
	return holds
}

func modelEmpty(s api.Syntax) []bool {
	return modelDerives(s, func(api.Sym) bool { return false })
}

func modelUseful(s api.Syntax) []bool {
	return modelDerives(s, func(x api.Sym) bool { return x.Token })
}

// modelOf returns the tokens of a list that stand after nullable rules only, and those of the FIRST sets of the rules that do.
func modelOf(empty []bool, first []numbers, l []api.Sym) (numbers, bool) {
	out := numbers{}
	for _, x := range l {
		if x.Token {
			out.join(one(x.N))
			return out, false
		}
		out.join(first[x.N])
		if !empty[x.N] {
			return out, false
		}
	}
	return out, true
}

func noSets(s api.Syntax) []numbers {
	l := make([]numbers, len(s.Names))
	for i := range l {
		l[i] = numbers{}
	}
	return l
}

func modelFirst(s api.Syntax) []numbers {
	empty, first := modelEmpty(s), noSets(s)
	for changed := true; changed; {
		changed = false
		for _, p := range s.Prods {
			more, _ := modelOf(empty, first, p.Right)
			changed = first[p.Left].join(more) || changed
		}
	}
	return first
}

func modelFollow(s api.Syntax) []numbers {
	empty, first, follow := modelEmpty(s), modelFirst(s), noSets(s)
	if len(s.Names) > 0 {
		follow[0].join(one(len(s.Tokens)))
	}
	for changed := true; changed; {
		changed = false
		for _, p := range s.Prods {
			for i, x := range p.Right {
				if x.Token {
					continue
				}
				more, all := modelOf(empty, first, p.Right[i+1:])
				changed = follow[x.N].join(more) || changed
				if all {
					changed = follow[x.N].join(follow[p.Left]) || changed
				}
			}
		}
	}
	return follow
}

func ascending(l []numbers) [][]int {
	var out [][]int
	for _, n := range l {
		out = append(out, n.ascending())
	}
	return out
}

// modelAnswers is a second form of all calls, which follows the chapter word for word.
func modelAnswers(s api.Syntax, l []api.Sym) answers {
	if !modelRight(s) {
		return answers{}
	}
	a := answers{right: true, empty: modelEmpty(s), useful: modelUseful(s), first: ascending(modelFirst(s)), follow: ascending(modelFollow(s))}
	if len(s.Names) > 0 && modelIndices(s, l) {
		of, all := modelOf(a.empty, modelFirst(s), l)
		a.of, a.all = of.ascending(), all
	}
	return a
}

// rights returns all lists of symbols that are so long at most.
func rights(names, tokens, longest int) [][]api.Sym {
	var all []api.Sym
	for i := range names {
		all = append(all, non(i))
	}
	for i := range tokens {
		all = append(all, tok(i))
	}
	lists := [][]api.Sym{nil}
	for at := 0; at < len(lists); at++ {
		if len(lists[at]) < longest {
			for _, x := range all {
				lists = append(lists, append(slices.Clone(lists[at]), x))
			}
		}
	}
	return lists
}

// everySyntax calls f with all syntaxes of so many rules, tokens and productions, one of them with so many symbols at most.
func everySyntax(names, tokens, prods, longest int, f func(api.Syntax)) {
	var all []api.Prod
	for i := range names {
		for _, r := range rights(names, tokens, longest) {
			all = append(all, prod(i, r...))
		}
	}
	chosen := make([]api.Prod, prods)
	var choose func(at, from int)
	choose = func(at, from int) {
		if at == prods {
			f(numbered(names, tokens, chosen...))
			return
		}
		for i := from; i < len(all); i++ {
			chosen[at] = all[i]
			choose(at+1, i)
		}
	}
	choose(0, 0)
}

// N1 to N5: all syntaxes of a few rules and short productions, each with some lists.
func TestEverySyntax(t *testing.T) {
	for _, c := range []struct{ names, tokens, prods, longest, lists int }{{1, 0, 2, 3, 2}, {1, 1, 3, 3, 2}, {1, 2, 2, 3, 2}, {2, 0, 3, 2, 2}, {2, 1, 3, 2, 2}, {2, 2, 2, 2, 1}, {2, 1, 2, 3, 1}, {3, 1, 2, 2, 1}, {3, 0, 3, 2, 1}} {
		t.Run(fmt.Sprint(c), func(t *testing.T) {
			t.Parallel()
			lists := rights(c.names, c.tokens, c.lists)
			everySyntax(c.names, c.tokens, c.prods, c.longest, func(s api.Syntax) {
				want := modelAnswers(s, nil)
				if got := ask(s, nil); !got.same(want) {
					t.Errorf("%v:\n%+v, want\n%+v", s.Prods, got, want)
				}
				first := modelFirst(s)
				for _, l := range lists {
					of, all := modelOf(want.empty, first, l)
					if got, gotAll := firsts.Of(s, l); !slices.Equal(got, of.ascending()) || gotAll != all {
						t.Errorf("Of %v in %v: %v, %v, want %v, %v", l, s.Prods, got, gotAll, of.ascending(), all)
					}
				}
			})
		})
	}
}

// N1 to N5: drawn syntaxes of some rules and tokens.
func TestDrawn(t *testing.T) {
	d := newDraw(1)
	for range 40000 {
		s := d.small()
		agrees(t, s, d.symbols(s, 4))
	}
	for range 3000 {
		s := d.syntax(1+d.IntN(40), d.IntN(20), d.IntN(100), 1+d.IntN(8))
		agrees(t, s, d.symbols(s, 8))
	}
}

// N1 to N5: drawn syntaxes of so many tokens that no word has a bit for each of them.
func TestManyTokens(t *testing.T) {
	d := newDraw(2)
	for _, tokens := range []int{60, 62, 63, 64, 65, 127, 128, 129, 200, 500} {
		for range 60 {
			s := d.syntax(1+d.IntN(30), tokens, 20+d.IntN(200), 1+d.IntN(6))
			agrees(t, s, d.symbols(s, 4))
		}
	}
}

// N1: drawn syntaxes with a Left or a symbol that is no index, and lists with one.
func TestDrawnWrong(t *testing.T) {
	d := newDraw(3)
	for range 20000 {
		s := d.small()
		l := d.symbols(s, 4)
		wrong := d.IntN(12) - 3
		switch {
		case d.IntN(3) == 0 && len(l) > 0:
			l[d.IntN(len(l))] = api.Sym{Token: d.IntN(2) == 0, N: wrong}
		case len(s.Prods) > 0:
			p := &s.Prods[d.IntN(len(s.Prods))]
			if len(p.Right) == 0 || d.IntN(3) == 0 {
				p.Left = wrong
			} else {
				p.Right[d.IntN(len(p.Right))] = api.Sym{Token: d.IntN(2) == 0, N: wrong}
			}
		}
		agrees(t, s, l)
	}
}
