package predict_test

import (
	"math"
	"reflect"
	"slices"
	"sync"
	"testing"

	"reglet/api"
)

// R1: syntaxes with any numbers are answered.
func TestAnyNumbers(t *testing.T) {
	extremes := []int{math.MinInt, math.MinInt + 1, -1 << 32, -65, -64, -2, -1, 0, 1, 2, 3, 63, 64, 65, 1 << 32, math.MaxInt - 1, math.MaxInt}
	for names := range 3 {
		for tokens := range 3 {
			for _, left := range extremes {
				for _, n := range extremes {
					for _, m := range extremes {
						for _, x := range []api.Sym{tok(n), non(n)} {
							for _, y := range []api.Sym{tok(m), non(m)} {
								agrees(t, numbered(names, tokens, prod(left, x, y)))
								agrees(t, numbered(names, tokens, prod(0), prod(left, x), prod(left, y)))
							}
						}
					}
				}
			}
		}
	}
}

// guard is what stands behind the lists of guarded arguments.
var guard = api.Sym{Token: true, N: -77}

// guarded returns a syntax in memory of its own, with more items behind each list.
func guarded(s api.Syntax) api.Syntax {
	out := api.Syntax{Skip: s.Skip, Named: s.Named}
	out.Names = append(slices.Clone(s.Names), "guard", "guard")[:len(s.Names)]
	out.Tokens = append(slices.Clone(s.Tokens), api.Token{Name: "guard"}, api.Token{Name: "guard"})[:len(s.Tokens)]
	for _, p := range s.Prods {
		out.Prods = append(out.Prods, prod(p.Left, append(slices.Clone(p.Right), guard, guard, guard)[:len(p.Right)]...))
	}
	out.Prods = append(out.Prods, prod(-77, guard), prod(-77, guard))[:len(s.Prods)]
	return out
}

// whole returns all that a guarded syntax has, with what is behind its lists.
func whole(s api.Syntax) api.Syntax {
	s.Names, s.Tokens, s.Prods = s.Names[:len(s.Names)+2], s.Tokens[:len(s.Tokens)+2], slices.Clone(s.Prods[:len(s.Prods)+2])
	for i := range len(s.Prods) - 2 {
		s.Prods[i].Right = s.Prods[i].Right[:len(s.Prods[i].Right)+3]
	}
	return s
}

// R3: neither the syntax nor what is behind its lists is changed.
func TestMemory(t *testing.T) {
	d := newDraw(20)
	for i := range 3000 {
		s := d.small()
		if i%5 == 0 {
			s = d.syntax(1+d.IntN(20), d.IntN(200), d.IntN(60), 6)
		}
		if i%7 == 0 && len(s.Prods) > 0 {
			s.Prods[d.IntN(len(s.Prods))].Left = -1
		}
		asked := guarded(s)
		ask(asked)
		if !reflect.DeepEqual(whole(asked), whole(guarded(s))) {
			t.Errorf("%v became %v", s.Prods, whole(asked).Prods)
		}
	}
}

// R3: the memory of productions may be shared.
func TestSharedParts(t *testing.T) {
	symbols := []api.Sym{non(1), non(2), tok(0), non(0), non(2), tok(1)}
	var prods []api.Prod
	for i := range symbols {
		for j := i; j <= len(symbols); j++ {
			prods = append(prods, prod((i*j)%3, symbols[i:j]...))
		}
	}
	for i := range prods {
		for j := i; j <= len(prods); j++ {
			agrees(t, numbered(3, 2, prods[i:j]...))
		}
	}
	if !slices.Equal(symbols, []api.Sym{non(1), non(2), tok(0), non(0), non(2), tok(1)}) {
		t.Errorf("changed: %v", symbols)
	}
}

// spoil overwrites all memory of an answer, also behind its lists.
func (a answer) spoil() {
	for _, row := range a.table[:cap(a.table)] {
		for i := range row[:cap(row)] {
			row[:cap(row)][i] = -77
		}
	}
	for i := range a.clashes[:cap(a.clashes)] {
		a.clashes[:cap(a.clashes)][i] = api.Clash{Rule: -77, Look: -77, One: -77, Two: -77}
	}
}

// An answer is new memory: writing into it changes neither what was asked nor a later answer.
func TestAnswersAreNew(t *testing.T) {
	d := newDraw(21)
	for range 3000 {
		s := d.small()
		asked := guarded(s)
		ask(asked).spoil()
		if !reflect.DeepEqual(whole(asked), whole(guarded(s))) {
			t.Errorf("%v became %v", s.Prods, asked.Prods)
		}
		agrees(t, asked)
	}
}

// No two lists of an answer share memory, neither rows nor a row and the conflicts, nor what is behind them.
func TestListsAreApart(t *testing.T) {
	d := newDraw(22)
	for i := range 1500 {
		s := d.small()
		if i%3 == 0 {
			s = d.syntax(1+d.IntN(20), d.IntN(200), d.IntN(60), 6)
		}
		a, want := ask(s), ask(s)
		for i, row := range a.table {
			answer{table: api.Table{row}}.spoil()
			if rest := (answer{a.table[i+1:], a.clashes}); !rest.same(answer{want.table[i+1:], want.clashes}) {
				t.Fatalf("%v: row %d is shared", s.Prods, i)
			}
		}
	}
}

// R4: an answer hangs on no earlier call, and calls may run at the same time.
func TestNoState(t *testing.T) {
	d := newDraw(23)
	var syntaxes []api.Syntax
	var want []answer
	for i := range 200 {
		s := d.small()
		if i%10 == 0 {
			s = d.syntax(30, 130, 100, 5)
		}
		syntaxes, want = append(syntaxes, s), append(want, ask(s))
	}
	var group sync.WaitGroup
	for worker := range 8 {
		group.Go(func() {
			for n := range 1000 {
				i := (n*7 + worker*31) % len(syntaxes)
				if got := ask(syntaxes[i]); !got.same(want[i]) {
					t.Errorf("%v: another answer", syntaxes[i].Prods)
				}
			}
		})
	}
	group.Wait()
}
