package predict_test

import (
	"slices"
	"strings"
	"testing"

	"reglet/api"
	"reglet/predict"
)

// The example of the chapter.
func TestExample(t *testing.T) {
	s := of("a", "x", "a: x a | a:")
	if a := ask(s); rows(a.table) != "0 1" || len(a.clashes) > 0 {
		t.Errorf("%+v", a)
	}
}

// cases are syntaxes with their tables, a row for each rule, the last place of a row being the end, and with their conflicts.
var cases = []struct{ names, tokens, prods, table, clashes string }{
	// Without Names, without Tokens, without Prods, and a rule without a production.
	{"", "", "", "", ""},
	{"", "x y", "", "", ""},
	{"a", "", "", ".", ""},
	{"a b", "", "", ". | .", ""},
	{"a", "x y", "", ". . .", ""},
	{"a b", "x y", "", ". . . | . . .", ""},
	{"a", "", "a:", "0", ""},
	{"a b", "", "a: b | b:", "0 | 1", ""},
	{"a b", "x", "a: x", "0 . | . .", ""},
	{"a b", "x", "b: x", ". . | 0 .", ""},
	{"a b", "x y", "a: x b | a: y", "0 1 . | . . .", ""},
	{"a b", "x y", "a: b x | a: y", ". 1 . | . . .", ""},
	// What a production begins with.
	{"a", "x y", "a: x", "0 . .", ""},
	{"a", "x y", "a: y", ". 0 .", ""},
	{"a", "x y", "a: x y", "0 . .", ""},
	{"a", "x y", "a: y | a: x", "1 0 .", ""},
	{"a", "x y z", "a: z x | a: y z", ". 1 0 .", ""},
	{"a b", "x y", "a: b | b: x | b: y", "0 0 . | 1 2 .", ""},
	{"a b", "x y", "b: y | a: b | b: x", "1 1 . | 2 0 .", ""},
	{"a b c", "x y z", "a: b | a: c | b: x | b: y | c: z", "0 0 1 . | 2 3 . . | . . 4 .", ""},
	{"a b c", "x y z", "a: b z | b: c z | c: x | c: y", "0 0 . . | 1 1 . . | 2 3 . .", ""},
	// A production without symbols: the end for rule 0, and what follows for others.
	{"a", "x", "a:", ". 0", ""},
	{"a", "x y", "a: y a | a:", ". 0 1", ""},
	{"a", "x y", "a: x a y | a:", "0 1 1", ""},
	{"a b", "x y", "a: b x | b:", "0 . . | 1 . .", ""},
	{"a b", "x y", "a: b x | b: y | b:", "0 0 . | 2 1 .", ""},
	{"a b", "x y", "a: b | b: y | b:", ". 0 0 | . 1 2", ""},
	{"a b", "x y", "a: x b | b: y | b:", "0 . . | . 1 2", ""},
	{"a b c", "x y z", "a: b c | b: x | b: | c: y", "0 0 . . | 1 2 . . | . 3 . .", ""},
	{"a b c", "x y z", "a: b c z | b: x | b: | c: y | c:", "0 0 0 . | 1 2 2 . | . 3 4 .", ""},
	{"b a", "x", "a: b x | b:", "1 1 | 0 .", ""},
	// A rule that nothing reaches follows nowhere.
	{"a b", "x", "a: x | b:", "0 . | . .", ""},
	{"a b", "x", "a: x | b: x | b:", "0 . | 1 .", ""},
	{"a b", "x", "a: x | b: | b:", "0 . | . .", ""},
	{"a b c", "x", "a: x | b: c x | c:", "0 . | 1 . | 2 .", ""},
	// All symbols are nullable rules, some of them, and none.
	{"a b c", "x y z", "a: b c | b: x | b: | c: y | c:", "0 0 . 0 | 1 2 . 2 | . 3 . 4", ""},
	{"a b c", "x y z", "a: b c | b: x | b: | c: y", "0 0 . . | 1 2 . . | . 3 . .", ""},
	{"a b c", "x y z", "a: b c | b: x | c: y | c:", "0 . . . | 1 . . . | . 2 . 3", ""},
	{"a b c", "x y z", "a: b c | b: x | c: y", "0 . . . | 1 . . . | . 2 . .", ""},
	{"a b", "x", "a: b | b:", ". 0 | . 1", ""},
	{"a b", "x", "a: b b b | b:", ". 0 | . 1", ""},
	{"a b", "x y", "a: b b y b | b:", ". 0 . | . 1 1", ""},
	{"a b c d", "x y z w", "a: b z | b: c d | c: x | c: | d: y | d:", "0 0 0 . . | 1 1 1 . . | 2 3 3 . . | . 4 5 . .", ""},
	{"a b c d", "x y z w", "a: b z | b: c d w | c: x | c: | d: y | d:", "0 0 . 0 . | 1 1 . 1 . | 2 3 . 3 . | . 4 . 5 .", ""},
	// Rules that derive nothing have what they begin with.
	{"a", "x", "a: x a", "0 .", ""},
	{"a", "x", "a: a", ". .", ""},
	{"a b", "x y", "a: y | a: b y | b: x b", "1 0 . | 2 . .", ""},
	{"a b", "x y", "a: y | a: b | b: b x", ". 0 . | . . .", ""},
	{"a b c", "x y", "a: b c | b: x | b: | c: x c", "0 . . | 1 . . | 3 . .", "b x 1 2"},
	{"a b c", "x y", "a: b c | b: x | b: | c: c", "0 . . | 1 . . | . . .", ""},
	// Rules that come to themselves on the left.
	{"a", "x", "a: a x", ". .", ""},
	{"a", "x y", "a: a x | a: y", ". 0 .", "a y 0 1"},
	{"a", "x y", "a: y | a: a x", ". 0 .", "a y 0 1"},
	{"a", "x", "a: a x | a:", "0 1", "a x 0 1"},
	{"a", "x", "a: a | a: x", "0 .", "a x 0 1"},
	{"a", "x", "a: a | a:", ". 0", "a $ 0 1"},
	{"a", "x", "a: a a | a: x", "0 .", "a x 0 1"},
	{"a", "x", "a: a a | a: x | a:", "0 0", "a x 0 1, a x 0 2, a $ 0 2"},
	{"a b", "x y", "a: b x | b: a y | b: x", "0 . . | 1 . .", "b x 1 2"},
	{"a b", "x y", "a: b x | b: a y", ". . . | . . .", ""},
	{"a b", "x y", "a: b a x | a: y | b:", ". 0 . | . 2 .", "a y 0 1"},
	{"a b", "x y", "a: b | b: a | a: x", "0 . . | 1 . .", "a x 0 2"},
	// The same production twice, and thrice.
	{"a", "x y", "a: x | a: x", "0 . .", "a x 0 1"},
	{"a", "x y", "a: x | a: x | a: x", "0 . .", "a x 0 1, a x 0 2"},
	{"a", "x", "a: | a:", ". 0", "a $ 0 1"},
	{"a", "x", "a: | a: x | a:", "1 0", "a $ 0 2"},
	{"a b", "x y", "b: x | a: b | a: b | b: y", "1 1 . | 0 3 .", "a x 1 2, a y 1 2"},
	{"a b", "x y", "b: x | a: y b | b: x", ". 1 . | 0 . .", "b x 0 2"},
	// Two, and three productions that one token selects, or the end.
	{"a", "x y", "a: x | a: x y", "0 . .", "a x 0 1"},
	{"a", "x y", "a: x y | a: y | a: x", "0 1 .", "a x 0 2"},
	{"a", "x y", "a: x | a: x y | a: x x", "0 . .", "a x 0 1, a x 0 2"},
	{"a", "x y", "a: y | a: x | a: y x | a: x y | a: x x", "1 0 .", "a x 1 3, a x 1 4, a y 0 2"},
	{"a b", "x y", "a: b | a: | b:", ". . 0 | . . 2", "a $ 0 1"},
	{"a b c", "x y", "a: b c | a: b | a: | b: | c:", ". . 0 | . . 3 | . . 4", "a $ 0 1, a $ 0 2"},
	{"a b", "x y", "a: b x | b: | b: b", "0 . . | 1 . .", "b x 1 2"},
	{"a b", "x y", "a: b x | a: b y | b: | b: b | b: b b", "0 1 . | 2 2 .", "b x 2 3, b x 2 4, b y 2 3, b y 2 4"},
	// FIRST and FOLLOW of one production have the same token: it is no conflict with itself.
	{"a b", "x", "a: b x | b: b x", ". . | . .", ""},
	{"a b c", "x", "a: b x | b: c | c: x | c:", "0 . | 1 . | 2 .", "c x 2 3"},
	{"a b c d", "x", "a: b x | b: c c | c: d d | d: x | d:", "0 . | 1 . | 2 . | 3 .", "d x 3 4"},
	{"a b c", "x y", "a: b x | b: c | b: y x | c: x | c:", "0 0 . | 1 2 . | 3 . .", "c x 3 4"},
	{"a b c", "x", "a: b b | b: c c | c: x | c:", "0 0 | 1 1 | 2 3", "c x 2 3"},
	// FIRST of one and FOLLOW of another one.
	{"a b", "x y", "a: b x | b: x | b:", "0 . . | 1 . .", "b x 1 2"},
	{"a b", "x y", "a: b x | b: | b: x", "0 . . | 1 . .", "b x 1 2"},
	{"a b", "x y", "a: b x | b: y | b: | b: x y", "0 0 . | 2 1 .", "b x 2 3"},
	{"a", "x", "a: x a x | a:", "0 1", "a x 0 1"},
	{"a", "x y", "a: | a: x a x | a: x", "0 . 0", "a x 0 1, a x 0 2"},
	// Conflicts by rules, then by tokens with the end last, then by productions, wherever these stand.
	{"a b", "x y", "b: y | b: x | a: y b | a: x | b: x y | b: y y | a: x x | a: y", "3 2 . | 1 0 .", "a x 3 6, a y 2 7, b x 1 4, b y 0 5"},
	{"a b c", "x y", "c: x | c: x | b: x c | b: x | a: x b | a: x", "4 . . | 2 . . | 0 . .", "a x 4 5, b x 2 3, c x 0 1"},
	{"a b", "x y", "a: b | a: b b | b: | b: y | b: x", "0 0 0 | 2 2 2", "a x 0 1, a y 0 1, a $ 0 1, b x 2 4, b y 2 3"},
	{"a b", "x y", "b: y | a: | a: b | a: y | b: | a: y a | a: x", "6 2 1 | . 0 4", "a y 2 3, a y 2 5, a $ 1 2"},
	// Sums, and the else that may belong to either if.
	{"e r t", "n + ( )", "e: t r | r: + t r | r: | t: n | t: ( e )", "0 . 0 . . | . 1 . 2 2 | 3 . 4 . .", ""},
	{"s e", "if x else", "s: if x s e | s: x | e: else s | e:", "0 1 . . | . . 2 3", "e else 2 3"},
}

// O1: the table.
func TestTable(t *testing.T) {
	for _, c := range cases {
		s := of(c.names, c.tokens, c.prods)
		if got := rows(ask(s).table); got != c.table {
			t.Errorf("%s: %s, want %s", c.prods, got, c.table)
		}
	}
}

// O2: the conflicts.
func TestConflicts(t *testing.T) {
	for _, c := range cases {
		s := of(c.names, c.tokens, c.prods)
		if got := conflicts(s, ask(s).clashes); got != c.clashes {
			t.Errorf("%s: %s, want %s", c.prods, got, c.clashes)
		}
	}
}

// O1: a row for each rule, and in it a place for each token and the end, with a production of the rule or -1.
func TestShape(t *testing.T) {
	d := newDraw(5)
	for range 5000 {
		s := d.syntax(d.IntN(20), d.IntN(20), d.IntN(40), 1+d.IntN(5))
		table, _ := predict.Predict(s)
		if len(table) != len(s.Names) {
			t.Fatalf("%v: %d rows for %d rules", s.Prods, len(table), len(s.Names))
		}
		for rule, row := range table {
			if len(row) != len(s.Tokens)+1 {
				t.Fatalf("%v: %d places for %d tokens", s.Prods, len(row), len(s.Tokens))
			}
			for _, n := range row {
				if n < -1 || n >= len(s.Prods) || n >= 0 && s.Prods[n].Left != rule {
					t.Fatalf("%v: %d is no production of rule %d", s.Prods, n, rule)
				}
			}
		}
	}
}

// O2: what each conflict has, and their order.
func TestConflictOrder(t *testing.T) {
	d := newDraw(6)
	seen := 0
	for range 5000 {
		s := d.small()
		a := ask(s)
		for i, c := range a.clashes {
			if c.One != a.table[c.Rule][c.Look] || c.Two <= c.One || s.Prods[c.Two].Left != c.Rule {
				t.Errorf("%v: %v in %v", s.Prods, c, a.table)
			}
			if i == 0 {
				continue
			}
			was := a.clashes[i-1]
			if slices.Compare([]int{was.Rule, was.Look, was.Two}, []int{c.Rule, c.Look, c.Two}) >= 0 {
				t.Errorf("%v: %v ahead of %v", s.Prods, was, c)
			}
			seen++
		}
	}
	if seen < 5000 {
		t.Errorf("only %d conflicts were asked for", seen)
	}
}

// O1: a Left, a token or a rule that is no index, wherever it stands: the answer is empty, also if there is a conflict ahead.
func TestWrong(t *testing.T) {
	whole := of("a b c", "x y", "a: b x c | b: y a | b: | c: x | b: y")
	if a := ask(whole); rows(a.table) != "0 0 . | 2 1 . | 3 . ." || conflicts(whole, a.clashes) != "b y 1 4" {
		t.Errorf("%+v", a)
	}
	wrong := func(s api.Syntax) {
		t.Helper()
		if a := ask(s); len(a.table) > 0 || len(a.clashes) > 0 {
			t.Errorf("%v: %+v", s.Prods, a)
		}
	}
	each := func(p api.Prod) {
		t.Helper()
		for at := range len(whole.Prods) + 1 {
			s := whole
			s.Prods = slices.Insert(slices.Clone(s.Prods), at, p)
			wrong(s)
		}
	}
	for _, n := range []int{-1 << 63, -1 << 32, -4, -3, -2, -1, 2, 3, 4, 5, 64, 1 << 32, 1<<63 - 1} {
		for _, right := range [][]api.Sym{nil, {tok(1)}, {non(0), non(2)}} {
			if n != 2 {
				each(prod(n, right...))
			}
			for i := range len(right) + 1 {
				each(prod(1, slices.Insert(slices.Clone(right), i, tok(n))...))
				if n != 2 {
					each(prod(1, slices.Insert(slices.Clone(right), i, non(n))...))
				}
			}
		}
	}
	for _, tokens := range []int{0, 2} {
		wrong(numbered(0, tokens, prod(0)))
		wrong(numbered(0, tokens, prod(-1, tok(0))))
		wrong(numbered(0, tokens, prod(0, non(0))))
	}
	wrong(numbered(2, 0, prod(0), prod(1, tok(0))))
	wrong(numbered(2, 0, prod(0), prod(1, tok(-1))))
}

// O1 and O2: of what a syntax has, only its productions and the numbers of its rules and tokens count.
func TestOtherFields(t *testing.T) {
	d := newDraw(7)
	for range 1000 {
		s := d.small()
		was := ask(s)
		other := s
		other.Skip, other.Named = d.IntN(9)-4, d.IntN(9)-4
		other.Names = strings.Split(strings.Repeat("x,", len(s.Names)), ",")[:len(s.Names)]
		other.Tokens = slices.Repeat([]api.Token{{Name: "x", Expr: api.Expr{Kind: -9, N: []int{1}}}}, len(s.Tokens))
		if got := ask(other); !got.same(was) {
			t.Errorf("%v:\n%+v, want\n%+v", s.Prods, got, was)
		}
	}
}

// O2: the number of conflicts does not hang on the order of the productions, nor does where one of them is selected.
func TestOrder(t *testing.T) {
	d := newDraw(8)
	for range 3000 {
		s := d.small()
		was := ask(s)
		again := s
		again.Prods = slices.Clone(s.Prods)
		d.Shuffle(len(again.Prods), func(i, j int) { again.Prods[i], again.Prods[j] = again.Prods[j], again.Prods[i] })
		got := ask(again)
		for i, c := range got.clashes {
			if i >= len(was.clashes) || c.Rule != was.clashes[i].Rule || c.Look != was.clashes[i].Look {
				t.Errorf("%v: %v, but %v for %v", again.Prods, got.clashes, was.clashes, s.Prods)
				break
			}
		}
		for rule, row := range got.table {
			for look, n := range row {
				if n < 0 != (was.table[rule][look] < 0) {
					t.Errorf("%v: %v, but %v for %v", again.Prods, got.table, was.table, s.Prods)
				}
			}
		}
	}
}
