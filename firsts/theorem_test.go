package firsts_test

import (
	"slices"
	"strings"
	"testing"

	"reglet/api"
	"reglet/firsts"
)

// derived returns, for each rule, the lists of so many tokens at most that it derives, each as a text with a sign for each token.
func derived(s api.Syntax, most int) []map[string]int {
	lists := make([]map[string]int, len(s.Names))
	for i := range lists {
		lists[i] = map[string]int{}
	}
	for changed := true; changed; {
		changed = false
		for _, p := range s.Prods {
			for text := range concatenated(lists, p.Right, most) {
				if _, there := lists[p.Left][text]; !there {
					lists[p.Left][text] = 0
					changed = true
				}
			}
		}
	}
	return lists
}

// concatenated returns what symbols become, given what rules derive.
func concatenated(lists []map[string]int, l []api.Sym, most int) map[string]int {
	out := map[string]int{"": 0}
	for _, x := range l {
		next := map[string]int{}
		parts := map[string]int{sign(x.N): 0}
		if !x.Token {
			parts = lists[x.N]
		}
		for begin := range out {
			for end := range parts {
				if len(begin)+len(end) <= most {
					next[begin+end] = 0
				}
			}
		}
		out = next
	}
	return out
}

func sign(token int) string { return string([]byte{byte('A' + token)}) }

// N6: what a rule derives is empty or begins with a token of its FIRST set. N2 and N5: it derives the empty list if it is nullable, and any list if it is useful.
func TestDerived(t *testing.T) {
	// Of so many symbols in a production and so many rules, a list of so many tokens is derived if any is.
	everySyntax(2, 1, 3, 2, func(s api.Syntax) { derives(t, s, 4, true) })
	everySyntax(2, 2, 2, 2, func(s api.Syntax) { derives(t, s, 4, true) })
	d := newDraw(6)
	for range 3000 {
		derives(t, d.syntax(3, 1, d.IntN(9), 2), 8, true)
		derives(t, d.syntax(2, 1, d.IntN(9), 3), 9, true)
		derives(t, d.syntax(1, 3, d.IntN(6), 3), 3, true)
	}
	// Of others it may be a longer one.
	for range 1000 {
		derives(t, d.syntax(1+d.IntN(5), 1+d.IntN(3), d.IntN(12), 1+d.IntN(4)), 3, false)
	}
}

func derives(t *testing.T, s api.Syntax, most int, sure bool) {
	t.Helper()
	empty, useful, first := firsts.Empty(s), firsts.Useful(s), firsts.First(s)
	for i, lists := range derived(s, most) {
		if _, is := lists[""]; is != empty[i] {
			t.Errorf("%v: rule %d: nullable: %v", s.Prods, i, empty[i])
		}
		if len(lists) > 0 != useful[i] && (sure || !useful[i]) {
			t.Errorf("%v: rule %d: useful: %v", s.Prods, i, useful[i])
		}
		for text := range lists {
			if text != "" && !slices.Contains(first[i], int(text[0]-'A')) {
				t.Errorf("%v: rule %d derives %s, but its FIRST set is %v", s.Prods, i, text, first[i])
			}
		}
	}
}

// behind returns a syntax with one more rule for each rule and token: it derives what the rule derives behind the token.
func behind(s api.Syntax, empty []bool) api.Syntax {
	tokens := len(s.Tokens)
	out := numbered(len(s.Names)*(1+tokens), tokens, slices.Clone(s.Prods)...)
	for _, p := range s.Prods {
		for token := range tokens {
			for i, x := range p.Right {
				left, rest := len(s.Names)+p.Left*tokens+token, p.Right[i+1:]
				if !x.Token {
					out.Prods = append(out.Prods, prod(left, append([]api.Sym{non(len(s.Names) + x.N*tokens + token)}, rest...)...))
				} else if x.N == token {
					out.Prods = append(out.Prods, prod(left, rest...))
				}
				if x.Token || !empty[x.N] {
					break
				}
			}
		}
	}
	return out
}

// N3: each token with which a rule derives a list is in its FIRST set, and if all rules are useful, there are no others in it.
func TestFirstExactly(t *testing.T) {
	d := newDraw(7)
	exact := 0
	for range 20000 {
		s := d.small()
		useful, first := firsts.Useful(s), firsts.First(s)
		begins := firsts.Useful(behind(s, firsts.Empty(s)))
		for i := range s.Names {
			for token := range s.Tokens {
				is, does := slices.Contains(first[i], token), begins[len(s.Names)+i*len(s.Tokens)+token]
				if does && !is || is && !does && !slices.Contains(useful, false) {
					t.Errorf("%v: token %d begins rule %d: %v, but in its FIRST set: %v", s.Prods, token, i, does, is)
				}
				if is && !slices.Contains(useful, false) {
					exact++
				}
			}
		}
	}
	if exact < 5000 {
		t.Errorf("only %d tokens of FIRST sets were asked for", exact)
	}
}

// N4: in what rule 0 becomes, behind each rule there is what its FOLLOW set has.
func TestFollowed(t *testing.T) {
	d := newDraw(8)
	for range 4000 {
		s := d.small()
		follow := firsts.Follow(s)
		for range 10 {
			if len(s.Names) > 0 {
				d.becomes(s, 12, func(l []api.Sym) {
					for i, x := range l {
						if x.Token {
							continue
						}
						next, all := firsts.Of(s, l[i+1:])
						if all {
							next = append(next, len(s.Tokens))
						}
						for _, token := range next {
							if !slices.Contains(follow[x.N], token) {
								t.Errorf("%v: %v, but %d is not in the FOLLOW set of rule %d, %v", s.Prods, l, token, x.N, follow[x.N])
							}
						}
					}
				})
			}
		}
	}
}

// becomes calls f with what rule 0 becomes by drawn productions, until it is too long.
func (d draw) becomes(s api.Syntax, most int, f func([]api.Sym)) {
	l := []api.Sym{non(0)}
	for range most {
		f(l)
		at := d.IntN(len(l) + 1)
		if at == len(l) || l[at].Token {
			continue
		}
		var own [][]api.Sym
		for _, p := range s.Prods {
			if p.Left == l[at].N {
				own = append(own, p.Right)
			}
		}
		if len(own) == 0 {
			return
		}
		l = slices.Concat(l[:at], own[d.IntN(len(own))], l[at+1:])
		if len(l) == 0 || len(l) > most {
			return
		}
	}
}

// N6: nullable rules are useful.
func TestNullableUseful(t *testing.T) {
	d := newDraw(9)
	for range 20000 {
		s := d.small()
		useful := firsts.Useful(s)
		for i, empty := range firsts.Empty(s) {
			if empty && !useful[i] {
				t.Errorf("%v: rule %d is nullable, but not useful", s.Prods, i)
			}
		}
	}
}

// N6: one production more removes nothing.
func TestMonotone(t *testing.T) {
	d := newDraw(10)
	for range 20000 {
		s := d.small()
		if len(s.Names) == 0 {
			continue
		}
		l := d.symbols(s, 4)
		more := s
		at := d.IntN(len(s.Prods) + 1)
		more.Prods = slices.Insert(slices.Clone(s.Prods), at, prod(d.IntN(len(s.Names)), d.symbols(s, 4)...))
		if lost := ask(s, l).lost(ask(more, l)); lost != "" {
			t.Errorf("%v with %v: %s removed by production %d", more.Prods, l, lost, at)
		}
	}
}

// lost tells what of answers is not in others any more.
func (a answers) lost(b answers) string {
	var lost []string
	for i := range a.empty {
		if a.empty[i] && !b.empty[i] {
			lost = append(lost, "Empty")
		}
		if a.useful[i] && !b.useful[i] {
			lost = append(lost, "Useful")
		}
		if lacks(a.first[i], b.first[i]) {
			lost = append(lost, "First")
		}
		if lacks(a.follow[i], b.follow[i]) {
			lost = append(lost, "Follow")
		}
	}
	if lacks(a.of, b.of) || a.all && !b.all {
		lost = append(lost, "Of")
	}
	return strings.Join(lost, " ")
}

// lacks tells whether not all numbers of a list are in another one.
func lacks(l, in []int) bool {
	return slices.ContainsFunc(l, func(n int) bool { return !slices.Contains(in, n) })
}

// N3 and N4: each call agrees with the others: First of a rule is what Of says of its productions, and Follow has what Of says of what comes behind.
func TestCallsAgree(t *testing.T) {
	d := newDraw(11)
	for range 3000 {
		s := d.small()
		first, follow, empty := make([]numbers, len(s.Names)), make([]numbers, len(s.Names)), make([]bool, len(s.Names))
		for i := range s.Names {
			first[i], follow[i] = numbers{}, numbers{}
		}
		for _, p := range s.Prods {
			of, all := firsts.Of(s, p.Right)
			empty[p.Left] = empty[p.Left] || all
			for _, token := range of {
				first[p.Left].join(one(token))
			}
			for i, x := range p.Right {
				if of, _ := firsts.Of(s, p.Right[i+1:]); !x.Token {
					for _, token := range of {
						follow[x.N].join(one(token))
					}
				}
			}
		}
		if got := firsts.First(s); !sameSets(got, ascending(first)) {
			t.Errorf("%v: First: %v, want %v", s.Prods, got, ascending(first))
		}
		if got := firsts.Empty(s); !slices.Equal(got, empty) {
			t.Errorf("%v: Empty: %v, want %v", s.Prods, got, empty)
		}
		for i, got := range firsts.Follow(s) {
			if lacks(follow[i].ascending(), got) {
				t.Errorf("%v: Follow of rule %d: %v, want all of %v", s.Prods, i, got, follow[i].ascending())
			}
		}
	}
}
