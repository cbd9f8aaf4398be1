package least_test

import (
	"math"
	"math/rand/v2"
	"slices"
	"sync"
	"testing"

	"reglet/api"
	"reglet/auto"
	"reglet/least"
)

// fails asks that there is no automaton, but an error.
func fails(t *testing.T, name string, a api.Auto) {
	t.Helper()
	if m, e := least.Least(a); e != api.ErrArg || !equal(m, api.Auto{}) {
		t.Errorf("%s: error %d, %s", name, e, told(m))
	}
}

// K1: automata that are not valid, each way of it.
func TestWrong(t *testing.T) {
	for name, change := range map[string]func(*api.Auto){
		"a tag too few":                     func(a *api.Auto) { a.Tag = a.Tag[:2] },
		"a tag too many":                    func(a *api.Auto) { a.Tag = append(a.Tag, 0) },
		"no tags":                           func(a *api.Auto) { a.Tag = nil },
		"no states":                         func(a *api.Auto) { a.Next = nil },
		"a state too few":                   func(a *api.Auto) { a.Next = a.Next[:2] },
		"a state too many":                  func(a *api.Auto) { a.Next = append(a.Next, []int{0, 0, 0}) },
		"a state and a tag too few":         func(a *api.Auto) { a.Next, a.Tag = a.Next[:2], a.Tag[:2] },
		"a tag below 0":                     func(a *api.Auto) { a.Tag[0] = -1 },
		"a tag far below 0":                 func(a *api.Auto) { a.Tag[2] = math.MinInt },
		"a successor too few":               func(a *api.Auto) { a.Next[1] = a.Next[1][:2] },
		"a successor too many":              func(a *api.Auto) { a.Next[1] = append(a.Next[1], 0) },
		"no successors":                     func(a *api.Auto) { a.Next[2] = nil },
		"a successor behind the last state": func(a *api.Auto) { a.Next[0][2] = 3 },
		"a successor far behind":            func(a *api.Auto) { a.Next[0][2] = math.MaxInt },
		"a successor below -1":              func(a *api.Auto) { a.Next[0][0] = -2 },
		"a successor far below":             func(a *api.Auto) { a.Next[2][0] = math.MinInt },
		"a class below 0":                   func(a *api.Auto) { a.Class[0] = -1 },
		"a class below 0 in the middle":     func(a *api.Auto) { a.Class['q'] = -1 },
		"a class that has no successors":    func(a *api.Auto) { a.Class[255] = 3 },
		"a far class":                       func(a *api.Auto) { a.Class[255] = math.MaxInt },
		"the first class is not 0":          func(a *api.Auto) { a.Class[0] = 1 },
		"classes in another order":          func(a *api.Auto) { a.Class['a'], a.Class['b'] = 2, 1 },
		"a class left out":                  func(a *api.Auto) { a.Class['a'] = 2 },
		"fewer classes than successors":     func(a *api.Auto) { a.Class = classes("a") },
	} {
		a := of("-12 012 ---", "071", "a", "b")
		if _, e := least.Least(a); e != api.OK {
			t.Fatalf("error %d", e)
		}
		change(&a)
		fails(t, name, a)
		// It is wrong also where no string leads, or none has a tag.
		a = of("-00 012 ---", "000", "a", "b")
		change(&a)
		fails(t, name, a)
	}
	fails(t, "a tag without a state", api.Auto{Tag: []int{1}})
	fails(t, "a state without a tag", api.Auto{Next: [][]int{{0}}})
	fails(t, "no states, but a class below 0", api.Auto{Class: [256]int{7: -1}})
	fails(t, "no states, but a class too great", api.Auto{Class: [256]int{7: 2}})
	fails(t, "no states, but the first class is not 0", api.Auto{Class: [256]int{1}})
}

// K1: what is not valid to layer 9 is an error, and nothing else.
func TestWrongDrawn(t *testing.T) {
	d := newDraw(6)
	count := map[bool]int{}
	for range 6000 {
		a := d.auto(1+d.IntN(4), 1+d.IntN(4), 2)
		state, number := d.IntN(len(a.Next)), []int{-2, -1, 0, 1, 2, 3, 4, 5, math.MinInt, math.MaxInt, 1 << 32}[d.IntN(11)]
		switch row := a.Next[state]; d.IntN(5) {
		case 0:
			a.Class[d.IntN(256)] = number
		case 1:
			row[d.IntN(len(row))] = number
		case 2:
			a.Tag[state] = number
		case 3:
			a.Next[state] = row[:d.IntN(len(row)+1)]
		case 4:
			a.Tag = a.Tag[:d.IntN(len(a.Tag)+1)]
		}
		right := auto.Right(a)
		count[right]++
		if right {
			asModel(t, a)
		} else {
			fails(t, "drawn", a)
		}
	}
	if count[true] < 1000 || count[false] < 1000 {
		t.Errorf("of those that were drawn, %v were valid", count)
	}
}

// guarded returns an automaton in memory of its own, with one more item behind each list.
func guarded(a api.Auto) api.Auto {
	a = copied(a)
	for i, row := range a.Next {
		a.Next[i] = append(row, -77)[:len(row)]
	}
	a.Next = append(a.Next, []int{-77})[:len(a.Next)]
	a.Tag = append(a.Tag, -77)[:len(a.Tag)]
	return a
}

// untouched tells whether the items behind the lists of a guarded automaton are what they were.
func untouched(a api.Auto) bool {
	behind := func(l []int) bool { return l[:len(l)+1][len(l)] == -77 }
	for _, row := range a.Next {
		if !behind(row) {
			return false
		}
	}
	last := a.Next[:len(a.Next)+1][len(a.Next)]
	return behind(a.Tag) && len(last) == 1 && last[0] == -77
}

// R3: neither what is handed in, nor what is behind it, is changed.
func TestMemory(t *testing.T) {
	d := newDraw(7)
	for i := range 1500 {
		was := d.auto(1+d.IntN(9), 1+d.IntN(5), 3)
		if i%5 == 0 {
			was = minimal(t, was)
		}
		if i%7 == 0 {
			was.Class[200] = -1
		}
		a := guarded(was)
		m, e := least.Least(a)
		if !equal(a, was) || !untouched(a) {
			t.Fatalf("%s was changed to %s", told(was), told(a))
		}
		if again, eAgain := least.Least(a); e != eAgain || !equal(m, again) {
			t.Errorf("%s: another answer", told(was))
		}
	}
}

// R3: rows that are one list.
func TestSharedRows(t *testing.T) {
	row := []int{1, 2, -1, 0, 1, 2}
	a := api.Auto{Class: classes("a", "b"), Next: [][]int{row[:3], row[1:4], row[3:6]}, Tag: []int{0, 1, 1}}
	asModel(t, a)
	asPromised(t, a)
	a = api.Auto{Class: classes("a", "b"), Next: slices.Repeat([][]int{{1, 2, 0}}, 3), Tag: row[3:6]}
	asModel(t, a)
	asPromised(t, a)
}

// LANGUAGE.md, 7: the lists of an answer share no memory, neither with each other nor with the argument.
func TestAnswersAreNew(t *testing.T) {
	d := newDraw(8)
	for range 200 {
		a := d.auto(2+d.IntN(6), 1+d.IntN(4), 3)
		if d.IntN(2) == 0 {
			a = minimal(t, a)
		}
		m, was, given := minimal(t, a), minimal(t, a), copied(a)
		lists := append(slices.Clone(m.Next), m.Tag)
		wasLists := append(slices.Clone(was.Next), was.Tag)
		for i, l := range lists {
			for j := range l[:cap(l)] {
				l[:cap(l)][j] = 99
			}
			for j := range lists {
				if j != i && !slices.Equal(lists[j], wasLists[j]) {
					t.Fatalf("the lists %d and %d share memory", i, j)
				}
			}
			copy(l, wasLists[i])
		}
		clear(m.Next)
		if !equal(a, given) {
			t.Fatal("an answer shares memory with what was handed in")
		}
	}
}

// R4: an answer hangs on nothing but the argument: not on earlier calls, nor on calls at the same time.
func TestNoState(t *testing.T) {
	d := newDraw(9)
	var given, answers []api.Auto
	var errs []api.Errno
	for i := range 300 {
		a := d.auto(1+d.IntN(30), 1+d.IntN(9), 3)
		if i%10 == 0 {
			a.Tag[0] = -1
		}
		m, e := least.Least(a)
		given, answers, errs = append(given, a), append(answers, m), append(errs, e)
	}
	var group sync.WaitGroup
	for i := range 6 {
		order := rand.New(rand.NewPCG(10, uint64(i))).Perm(len(given))
		group.Go(func() {
			for _, j := range order {
				if m, e := least.Least(given[j]); e != errs[j] || !equal(m, answers[j]) {
					t.Errorf("%s: another answer", told(given[j]))
				}
			}
		})
	}
	group.Wait()
}

// R1: many states, also such that one more is told apart by each longer string, take no time beyond measure.
func TestManyStates(t *testing.T) {
	const n = 200000
	a := api.Auto{Class: classes("a"), Next: rows(n, 2), Tag: make([]int, n)}
	for i := range n - 1 {
		a.Next[i][1] = i + 1
	}
	a.Tag[n-1] = 1
	becomes(t, a, a)
	a.Tag[n-1] = 0
	becomes(t, a, api.Auto{})
	for i := range n {
		a.Next[i][0], a.Next[i][1], a.Tag[i] = (i*7+3)%n, (i+1)%n, 1
	}
	becomes(t, a, of("0", "1"))
}

// R1: so do many states with many classes.
func TestManyClasses(t *testing.T) {
	const n = 2000
	a := api.Auto{Class: each(), Next: rows(n, 256), Tag: make([]int, n)}
	for i := range n - 1 {
		for b := range 256 {
			a.Next[i][b] = i + 1
		}
		a.Next[i][i%256] = 0
	}
	a.Tag[n-1] = 1
	becomes(t, a, a)
}
