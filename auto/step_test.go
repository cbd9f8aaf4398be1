package auto_test

import (
	"math"
	"slices"
	"testing"

	"reglet/api"
	"reglet/auto"
)

// steps asks for the successors of all states by all bytes.
func steps(t *testing.T, a api.Auto) {
	t.Helper()
	for state, row := range a.Next {
		for b, class := range a.Class {
			want := -1
			if class >= 0 && class < len(row) {
				want = row[class]
			}
			if got := auto.Step(a, state, b); got != want {
				t.Errorf("state %d, byte %d: %d, want %d", state, b, got, want)
			}
		}
		for _, b := range noBytes {
			if got := auto.Step(a, state, b); got != -1 {
				t.Errorf("state %d, byte %d: %d", state, b, got)
			}
		}
	}
	for _, state := range append([]int{len(a.Next), len(a.Next) + 1}, noStates...) {
		for b := -2; b < 258; b++ {
			if got := auto.Step(a, state, b); got != -1 {
				t.Errorf("state %d of %d, byte %d: %d", state, len(a.Next), b, got)
			}
		}
	}
}

// J2: automata that Build makes.
func TestStep(t *testing.T) {
	a := build(t, res("ab [ac]*"))
	for _, x := range []struct {
		state int
		b     byte
		want  int
	}{{0, 'a', 1}, {0, 'b', -1}, {0, 'c', 2}, {1, 'b', 3}, {1, 'a', 2}, {2, 'c', 2}, {2, 'b', -1}, {3, 'a', -1}, {0, 'd', -1}, {0, 0, -1}, {0, 255, -1}} {
		if got := auto.Step(a, x.state, int(x.b)); got != x.want {
			t.Errorf("state %d, byte %c: %d, want %d", x.state, x.b, got, x.want)
		}
	}
	for _, l := range []string{"", "!", "()", ".", "a", "\x00 \xff", "(ab|ba)* c", "[ab]*a[ab][ab]"} {
		steps(t, build(t, res(l)))
	}
}

// J2: automata that are drawn, valid or not.
func TestStepDrawn(t *testing.T) {
	d := newDraw(4)
	for range 100 {
		steps(t, d.auto(1+d.IntN(6), 1+d.IntN(6)))
		steps(t, d.wrong())
		steps(t, d.wrong())
	}
}

// J2: rows without the class, classes that are none, and successors that are no states.
func TestStepOfWrong(t *testing.T) {
	for _, class := range []int{-1, 0, 1, 2, 3, 4, 255, 256, math.MaxInt, math.MinInt} {
		var a api.Auto
		for b := range a.Class {
			a.Class[b] = 1
		}
		a.Class['a'], a.Class[0], a.Class[255] = class, class, class
		a.Next = [][]int{{0, 1, -1}, nil, {7}, {}, {-7, math.MaxInt, math.MinInt, 5}}
		for _, tags := range []int{0, 1, 5, 9} {
			a.Tag = make([]int, tags)
			steps(t, a)
		}
	}
	var none api.Auto
	steps(t, none)
	none.Tag = []int{1, 2, 3}
	steps(t, none)
	none.Next = [][]int{}
	steps(t, none)
	// What is behind the end of a list is not in it.
	rows := [][]int{slices.Repeat([]int{3}, 5)[:1], {4}, {5}}
	hidden := api.Auto{Next: rows[:2], Tag: []int{1, 2}}
	hidden.Class['a'] = 1
	if got := []int{auto.Step(hidden, 0, 'a'), auto.Step(hidden, 2, 'b'), auto.Step(hidden, 0, 'b'), auto.Step(hidden, 1, 'b')}; !slices.Equal(got, []int{-1, -1, 3, 4}) {
		t.Errorf("%v", got)
	}
}
