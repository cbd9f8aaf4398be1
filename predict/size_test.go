package predict_test

import (
	"slices"
	"testing"

	"reglet/api"
)

// chain returns so many rules, of which each becomes the next one, and the last one becomes symbols.
func chain(length, tokens int, last ...api.Sym) api.Syntax {
	s := numbered(length, tokens)
	for i := range length - 1 {
		s.Prods = append(s.Prods, prod(i, non(i+1)))
	}
	s.Prods = append(s.Prods, prod(length-1, last...))
	return s
}

// R1: a long chain of rules, whatever it ends with, takes linear time and no depth.
func TestLongChains(t *testing.T) {
	const length = 300000
	for _, c := range []struct {
		last []api.Sym
		look int // what selects all of its productions; below 0: nothing
	}{{[]api.Sym{tok(1)}, 1}, {nil, 2}, {[]api.Sym{non(0)}, -1}, {[]api.Sym{non(0), tok(0)}, -1}} {
		a := ask(chain(length, 2, c.last...))
		if len(a.table) != length || len(a.clashes) > 0 {
			t.Fatalf("%d rows, and %s", len(a.table), short(a.clashes))
		}
		for i, row := range a.table {
			want := []int{-1, -1, -1}
			if c.look >= 0 {
				want[c.look] = i
			}
			if !slices.Equal(row, want) {
				t.Fatalf("row %d of the chain to %v: %v, want %v", i, c.last, row, want)
			}
		}
	}
}

// R1: one production with very many symbols takes linear time, also if they are nullable.
func TestLongProductions(t *testing.T) {
	for _, x := range []api.Sym{non(0), non(1), tok(0)} {
		long := func(length int) api.Syntax {
			right := append(slices.Repeat([]api.Sym{x}, length), non(2), tok(1))
			return numbered(3, 3, prod(0, right...), prod(1), prod(1, tok(2)), prod(2, tok(0)))
		}
		for _, length := range []int{0, 1, 63, 64, 65, 1000} {
			agrees(t, long(length))
		}
		if got, want := ask(long(1000000)), ask(long(1000)); !got.same(want) {
			t.Errorf("%v: %+v, want %+v", x, got, want)
		}
	}
}

// R1: many productions of one rule and many tokens don't take a place for each of both.
func TestManyProductionsAndTokens(t *testing.T) {
	const count = 500000
	s := numbered(1, count)
	for i := range count {
		s.Prods = append(s.Prods, prod(0, tok(count-1-i)))
	}
	a := ask(s)
	if len(a.table) != 1 || len(a.table[0]) != count+1 || len(a.clashes) > 0 {
		t.Fatalf("%s", short(a))
	}
	for token, n := range a.table[0][:count] {
		if n != count-1-token {
			t.Fatalf("token %d: %d", token, n)
		}
	}
	if n := a.table[0][count]; n != -1 {
		t.Errorf("the end: %d", n)
	}
}

// O2: very many conflicts, for some tokens and the end, are in their order.
func TestManyConflicts(t *testing.T) {
	const prods, tokens = 1000, 500
	s := numbered(2, tokens)
	for i := range prods {
		s.Prods = append(s.Prods, prod(i%2, non(1)))
	}
	for token := range tokens {
		s.Prods = append(s.Prods, prod(1, tok(token)))
	}
	s.Prods = append(s.Prods, prod(1))
	var want []api.Clash
	for rule := range 2 {
		for look := range tokens + 1 {
			for i := rule + 2; i < prods; i += 2 {
				want = append(want, api.Clash{Rule: rule, Look: look, One: rule, Two: i})
			}
			if rule == 1 {
				want = append(want, api.Clash{Rule: rule, Look: look, One: rule, Two: prods + look})
			}
		}
	}
	a := ask(s)
	if !slices.Equal(a.clashes, want) {
		t.Errorf("%d conflicts, want %d: %s", len(a.clashes), len(want), short(a.clashes))
	}
	for rule, row := range a.table {
		if !slices.Equal(row, slices.Repeat([]int{rule}, tokens+1)) {
			t.Errorf("rule %d: %s", rule, short(row))
		}
	}
}

// O1 and O2: as many symbols in each production as there may be where syntaxes are built, all of them nullable, with many rules and tokens.
func TestGreatest(t *testing.T) {
	const count = 1000
	s := numbered(count, count)
	for i := range count {
		var right []api.Sym
		for j := i + 1; j < count && j <= i+200; j++ {
			right = append(right, non(j))
		}
		s.Prods = append(s.Prods, prod(i, right...), prod(i), prod(i, tok(i)))
	}
	a, clashes := ask(s), 0
	for i, row := range a.table {
		// All tokens but 0 and 1, and the end, follow each rule but the first one, and these select both productions that may be empty.
		want := slices.Repeat([]int{3 * i}, count+1)
		switch i {
		case 0:
			want[0] = 2
			clashes++
		case 1:
			want[0], want[1] = -1, 5
			clashes += count - 1
		default:
			want[0], want[1] = -1, -1
			clashes += count
		}
		if !slices.Equal(row, want) {
			t.Fatalf("row %d: %s, want %s", i, short(row), short(want))
		}
	}
	if len(a.clashes) != clashes {
		t.Errorf("%d conflicts, want %d", len(a.clashes), clashes)
	}
}
