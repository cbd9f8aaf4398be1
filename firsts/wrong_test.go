package firsts_test

import (
	"math"
	"reflect"
	"slices"
	"sync"
	"testing"

	"reglet/api"
	"reglet/firsts"
)

// R1: syntaxes and lists with any numbers are answered.
func TestAnyNumbers(t *testing.T) {
	extremes := []int{math.MinInt, math.MinInt + 1, -1 << 32, -65, -64, -2, -1, 0, 1, 2, 3, 63, 64, 65, 1 << 32, math.MaxInt - 1, math.MaxInt}
	for names := range 3 {
		for tokens := range 3 {
			for _, left := range extremes {
				for _, n := range extremes {
					for _, m := range extremes {
						for _, x := range []api.Sym{tok(n), non(n)} {
							for _, y := range []api.Sym{tok(m), non(m)} {
								agrees(t, numbered(names, tokens, prod(left, x, y)), []api.Sym{y, x})
								agrees(t, numbered(names, tokens, prod(0), prod(left, x)), []api.Sym{y})
							}
						}
					}
				}
			}
		}
	}
}

// guard is what stands behind the lists of guarded arguments.
var guard = api.Sym{Token: true, N: -77}

// guardedList returns a list in memory of its own, with more items behind it.
func guardedList(l []api.Sym) []api.Sym {
	return append(slices.Clone(l), guard, guard, guard)[:len(l)]
}

// guarded returns a syntax in memory of its own, with more items behind each list.
func guarded(s api.Syntax) api.Syntax {
	out := api.Syntax{Skip: s.Skip, Named: s.Named}
	out.Names = append(slices.Clone(s.Names), "guard", "guard")[:len(s.Names)]
	out.Tokens = append(slices.Clone(s.Tokens), api.Token{Name: "guard"}, api.Token{Name: "guard"})[:len(s.Tokens)]
	for _, p := range s.Prods {
		out.Prods = append(out.Prods, prod(p.Left, guardedList(p.Right)...))
	}
	out.Prods = append(out.Prods, prod(-77, guard), prod(-77, guard))[:len(s.Prods)]
	return out
}

// whole returns all that a guarded syntax has, with what is behind its lists.
func whole(s api.Syntax) api.Syntax {
	s.Names, s.Tokens, s.Prods = s.Names[:len(s.Names)+2], s.Tokens[:len(s.Tokens)+2], slices.Clone(s.Prods[:len(s.Prods)+2])
	for i := range len(s.Prods) - 2 {
		s.Prods[i].Right = s.Prods[i].Right[:len(s.Prods[i].Right)+3]
	}
	return s
}

// R3: neither the syntax and the list, nor what is behind their lists, are changed.
func TestMemory(t *testing.T) {
	d := newDraw(20)
	for i := range 3000 {
		s := d.small()
		if i%5 == 0 {
			s = d.syntax(1+d.IntN(20), d.IntN(200), d.IntN(60), 6)
		}
		l := d.symbols(s, 5)
		if i%7 == 0 && len(s.Prods) > 0 {
			s.Prods[d.IntN(len(s.Prods))].Left = -1
		}
		if i%11 == 0 {
			l = append(l, tok(len(s.Tokens)))
		}
		asked, list := guarded(s), guardedList(l)
		ask(asked, list)
		if !reflect.DeepEqual(whole(asked), whole(guarded(s))) {
			t.Errorf("%v became %v", s.Prods, whole(asked).Prods)
		}
		if !slices.Equal(list[:len(list)+3], guardedList(l)[:len(l)+3]) {
			t.Errorf("%v became %v", l, list[:len(list)+3])
		}
	}
}

// R3: the memory of productions and of a list may be shared.
func TestSharedParts(t *testing.T) {
	symbols := []api.Sym{non(1), non(2), tok(0), non(0), non(2), tok(1)}
	var prods []api.Prod
	for i := range symbols {
		for j := i; j <= len(symbols); j++ {
			prods = append(prods, prod((i*j)%3, symbols[i:j]...))
		}
	}
	for i := range prods {
		for j := i; j <= len(prods); j++ {
			s := numbered(3, 2, prods[i:j]...)
			for _, l := range [][]api.Sym{symbols, symbols[:2], symbols[1:2]} {
				agrees(t, s, l)
				if j > i {
					agrees(t, s, s.Prods[0].Right)
				}
			}
		}
	}
	if !slices.Equal(symbols, []api.Sym{non(1), non(2), tok(0), non(0), non(2), tok(1)}) {
		t.Errorf("changed: %v", symbols)
	}
}

// spoil overwrites all memory of an answer, also behind its lists.
func (a answers) spoil() {
	for _, l := range [][]bool{a.empty, a.useful} {
		for i := range l[:cap(l)] {
			l[:cap(l)][i] = !l[:cap(l)][i]
		}
	}
	for _, lists := range [][][]int{a.first, a.follow, {a.of}} {
		for _, l := range lists[:cap(lists)] {
			for i := range l[:cap(l)] {
				l[:cap(l)][i] = -77
			}
		}
	}
}

// An answer is new memory: writing into it changes neither what was asked nor a later answer.
func TestAnswersAreNew(t *testing.T) {
	d := newDraw(21)
	for range 2000 {
		s := d.small()
		l := d.symbols(s, 4)
		asked, list := guarded(s), guardedList(l)
		a := ask(asked, list)
		a.spoil()
		if !reflect.DeepEqual(whole(asked), whole(guarded(s))) || !slices.Equal(list, l) {
			t.Errorf("%v became %v", s.Prods, asked.Prods)
		}
		agrees(t, asked, list)
	}
}

// No two lists of an answer share memory.
func TestListsAreApart(t *testing.T) {
	d := newDraw(22)
	for i := range 1500 {
		s := d.small()
		if i%3 == 0 {
			s = d.syntax(1+d.IntN(20), d.IntN(200), d.IntN(60), 6)
		}
		for _, of := range []func(api.Syntax) [][]int{firsts.First, firsts.Follow} {
			lists, want := of(s), of(s)
			for i := range lists {
				l := lists[i]
				for j := range l[:cap(l)] {
					l[:cap(l)][j] = -77
				}
				for j := i + 1; j < len(lists); j++ {
					if !slices.Equal(lists[j], want[j]) {
						t.Fatalf("%v: list %d is changed with list %d", s.Prods, j, i)
					}
				}
			}
		}
	}
}

// R4: an answer hangs on no earlier call, and calls may run at the same time.
func TestNoState(t *testing.T) {
	d := newDraw(23)
	var syntaxes []api.Syntax
	var lists [][]api.Sym
	var want []answers
	for i := range 200 {
		s := d.small()
		if i%10 == 0 {
			s = d.syntax(30, 130, 100, 5)
		}
		syntaxes, lists = append(syntaxes, s), append(lists, d.symbols(s, 4))
		want = append(want, ask(s, lists[i]))
	}
	var group sync.WaitGroup
	for worker := range 8 {
		group.Go(func() {
			for n := range 1000 {
				i := (n*7 + worker*31) % len(syntaxes)
				if got := ask(syntaxes[i], lists[i]); !got.same(want[i]) {
					t.Errorf("%v: another answer", syntaxes[i].Prods)
				}
			}
		})
	}
	group.Wait()
}
