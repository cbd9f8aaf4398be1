package predict_test

import (
	"slices"
	"testing"

	"reglet/api"
)

// sign is a token as a part of a text.
func sign(token int) string { return string([]byte{byte('A' + token)}) }

// many is as far as ways are counted: it stands for more, too.
const many = 2

// ways returns, for each rule, the texts of so many tokens at most that it derives, and in how many ways it derives each of them.
func ways(s api.Syntax, most int) []map[string]int {
	counts := make([]map[string]int, len(s.Names))
	for changed := true; changed; {
		changed = false
		next := make([]map[string]int, len(s.Names))
		for i := range next {
			next[i] = map[string]int{}
		}
		for _, p := range s.Prods {
			for text, n := range concatenated(counts, p.Right, most) {
				next[p.Left][text] = min(next[p.Left][text]+n, many)
			}
		}
		for i := range next {
			for text, n := range next[i] {
				changed = changed || counts[i][text] != n
			}
		}
		counts = next
	}
	return counts
}

// concatenated returns what symbols become, given what rules derive.
func concatenated(counts []map[string]int, l []api.Sym, most int) map[string]int {
	out := map[string]int{"": 1}
	for _, x := range l {
		next, parts := map[string]int{}, map[string]int{sign(x.N): 1}
		if !x.Token {
			parts = counts[x.N]
		}
		for begin, n := range out {
			for end, m := range parts {
				if len(begin)+len(end) <= most {
					next[begin+end] = min(next[begin+end]+n*m, many)
				}
			}
		}
		out = next
	}
	return out
}

// everyText returns all texts of so many tokens at most.
func everyText(tokens, most int) []string {
	texts := []string{""}
	for at := 0; at < len(texts); at++ {
		for token := range tokens {
			if len(texts[at]) < most {
				texts = append(texts, texts[at]+sign(token))
			}
		}
	}
	return texts
}

// parse goes through a text as the table says, and returns the productions that it selects, and whether it comes to the end.
func parse(t *testing.T, s api.Syntax, table api.Table, text string) ([]int, bool) {
	t.Helper()
	var used []int
	stack, at := []api.Sym{non(0)}, 0
	for len(stack) > 0 {
		x, look := stack[0], len(s.Tokens)
		if at < len(text) {
			look = int(text[at] - 'A')
		}
		if x.Token {
			if x.N != look {
				return used, false
			}
			stack, at = stack[1:], at+1
			continue
		}
		n := table[x.N][look]
		if n < 0 {
			return used, false
		}
		if used = append(used, n); len(used) > 1000 {
			t.Fatalf("%v: no end in %s", s.Prods, text)
		}
		stack = slices.Concat(s.Prods[n].Right, stack[1:])
	}
	return used, at == len(text)
}

// becomes returns what rule 0 becomes by productions, of which each is one of the first rule in what there is.
func becomes(s api.Syntax, used []int) (string, bool) {
	l := []api.Sym{non(0)}
	for _, n := range used {
		at := slices.IndexFunc(l, func(x api.Sym) bool { return !x.Token })
		if at < 0 || l[at].N != s.Prods[n].Left {
			return "", false
		}
		l = slices.Concat(l[:at], s.Prods[n].Right, l[at+1:])
	}
	text := ""
	for _, x := range l {
		if !x.Token {
			return "", false
		}
		text += sign(x.N)
	}
	return text, true
}

// atMostOneWay asks that, without a conflict, rule 0 derive each text in one way, by the productions that the table selects, and tells how many it derives.
func atMostOneWay(t *testing.T, s api.Syntax, most int) int {
	t.Helper()
	a := ask(s)
	if len(a.clashes) > 0 || len(s.Names) == 0 {
		return 0
	}
	counts := ways(s, most)[0]
	for _, text := range everyText(len(s.Tokens), most) {
		if counts[text] > 1 {
			t.Errorf("%v: no conflict, but more than one way to %s", s.Prods, text)
		}
		used, ok := parse(t, s, a.table, text)
		if ok != (counts[text] > 0) {
			t.Errorf("%v: %s is derived in %d ways, but by the table: %v", s.Prods, text, counts[text], ok)
		}
		if got, is := becomes(s, used); ok && (got != text || !is) {
			t.Errorf("%v: for %s the table selects %v, which makes %s", s.Prods, text, used, got)
		}
	}
	return len(counts)
}

// O3: without conflicts each text is derived in one way at most. All small syntaxes.
func TestOneWayEverySyntax(t *testing.T) {
	derived := 0
	for _, c := range []struct{ names, tokens, prods, longest int }{{1, 1, 3, 3}, {1, 2, 3, 2}, {2, 0, 3, 2}, {2, 1, 3, 2}, {2, 2, 2, 2}, {3, 1, 2, 2}} {
		everySyntax(c.names, c.tokens, c.prods, c.longest, func(s api.Syntax) { derived += atMostOneWay(t, s, 4) })
	}
	if derived < 4000 {
		t.Errorf("only %d texts were derived", derived)
	}
}

// unclashed takes productions away that are in a conflict, until there is none.
func (d draw) unclashed(s api.Syntax) api.Syntax {
	for l := ask(s).clashes; len(l) > 0; l = ask(s).clashes {
		c := l[d.IntN(len(l))]
		at := []int{c.One, c.Two}[d.IntN(2)]
		s.Prods = slices.Delete(slices.Clone(s.Prods), at, at+1)
	}
	return s
}

// grown draws a syntax without a conflict: of so many drawn productions, it takes each that makes none. As many symbols are tokens as rules, so that much is derived.
func (d draw) grown(names, tokens, prods, longest int) api.Syntax {
	s := numbered(names, tokens)
	for range prods {
		var right []api.Sym
		for range d.IntN(longest + 1) {
			right = append(right, []api.Sym{tok(d.IntN(tokens)), non(d.IntN(names))}[d.IntN(2)])
		}
		more := s
		more.Prods = append(slices.Clone(s.Prods), prod(d.IntN(names), right...))
		if len(ask(more).clashes) == 0 {
			s = more
		}
	}
	return s
}

// O3: without conflicts each text is derived in one way at most. Drawn syntaxes.
func TestOneWayDrawn(t *testing.T) {
	d := newDraw(10)
	derived, rich := 0, 0
	for range 8000 {
		names := 1 + d.IntN(5)
		for _, s := range []api.Syntax{
			d.unclashed(d.syntax(names, 1+d.IntN(3), 2*names+d.IntN(3*names), 1+d.IntN(4))),
			d.grown(names, 1+d.IntN(3), 8*names, 1+d.IntN(4)),
		} {
			n := atMostOneWay(t, s, 5)
			derived += n
			if n > 5 {
				rich++
			}
		}
	}
	if derived < 20000 || rich < 500 {
		t.Errorf("only %d texts were derived, more than five by %d syntaxes", derived, rich)
	}
}

// O3, the other way round: what is derived in more than one way has a conflict.
func TestManyWaysConflict(t *testing.T) {
	d := newDraw(11)
	found := 0
	for range 6000 {
		s := d.syntax(1+d.IntN(3), 1+d.IntN(2), 1+d.IntN(6), 1+d.IntN(3))
		for text, n := range ways(s, 3)[0] {
			if n > 1 {
				found++
				if len(ask(s).clashes) == 0 {
					t.Errorf("%v: no conflict, but more than one way to %s", s.Prods, text)
				}
			}
		}
	}
	if found < 1000 {
		t.Errorf("only %d texts were derived in many ways", found)
	}
}

// O3 is about what rule 0 derives: a rule that it does not need may have several ways without a conflict, since nothing follows it.
func TestUnneeded(t *testing.T) {
	for _, prods := range []string{"a: x | b: | b:", "a: x | b: b | b:", "a: x | b: c | b: | c:", "a: x | c: b c | b: | b:"} {
		if s := of("a b c", "x", prods); len(ask(s).clashes) > 0 {
			t.Errorf("%s: %v", prods, ask(s).clashes)
		}
	}
}

// step is a production that is applied where so many tokens have come.
type step struct{ prod, at int }

// derive draws a derivation from a rule, and appends its tokens and its steps. It fails if it comes too deep, or becomes too long.
func (d draw) derive(s api.Syntax, rule, depth int, text *[]int, steps *[]step) bool {
	var own []int
	for i, p := range s.Prods {
		if p.Left == rule {
			own = append(own, i)
		}
	}
	if len(own) == 0 || depth == 0 || len(*text) > 30 {
		return false
	}
	n := own[d.IntN(len(own))]
	*steps = append(*steps, step{n, len(*text)})
	for _, x := range s.Prods[n].Right {
		if x.Token {
			*text = append(*text, x.N)
		} else if !d.derive(s, x.N, depth-1, text, steps) {
			return false
		}
	}
	return true
}

// O1 and O2: what is applied in a derivation is selected by the token that comes there, or by the end: it is in the table, or in a conflict.
func TestAppliedIsSelected(t *testing.T) {
	d := newDraw(12)
	inTable, inConflict := 0, 0
	for range 6000 {
		names := 1 + d.IntN(5)
		s := d.syntax(names, 1+d.IntN(4), names+d.IntN(3*names), 1+d.IntN(4))
		a := ask(s)
		for range 20 {
			var text []int
			var steps []step
			if !d.derive(s, 0, 8, &text, &steps) {
				continue
			}
			text = append(text, len(s.Tokens))
			for _, x := range steps {
				rule, look := s.Prods[x.prod].Left, text[x.at]
				switch first := a.table[rule][look]; {
				case first == x.prod:
					inTable++
				case slices.Contains(a.clashes, api.Clash{Rule: rule, Look: look, One: first, Two: x.prod}):
					inConflict++
				default:
					t.Errorf("%v: production %d comes ahead of %d, but the table has %d", s.Prods, x.prod, look, first)
				}
			}
		}
	}
	if inTable < 20000 || inConflict < 20000 {
		t.Errorf("only %d productions in tables, and %d in conflicts", inTable, inConflict)
	}
}
