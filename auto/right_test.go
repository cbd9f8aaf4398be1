package auto_test

import (
	"math"
	"slices"
	"testing"

	"reglet/api"
	"reglet/auto"
)

// right asks whether an automaton is valid.
func right(t *testing.T, a api.Auto, want bool) {
	t.Helper()
	if auto.Right(a) != want {
		t.Errorf("%s: valid is %v", short(a), !want)
	}
}

// small returns a valid automaton with the classes of a, b and the others.
func small() api.Auto {
	return api.Auto{Class: classes("a", "b"), Next: [][]int{{-1, 1, 2}, {0, 1, 2}, {-1, -1, -1}}, Tag: []int{0, 7, 1}}
}

// J4: one thing changed in a valid automaton.
func TestRight(t *testing.T) {
	right(t, small(), true)
	for _, x := range []struct {
		change func(*api.Auto)
		want   bool
	}{
		{func(a *api.Auto) { a.Tag = a.Tag[:2] }, false},
		{func(a *api.Auto) { a.Tag = append(a.Tag, 0) }, false},
		{func(a *api.Auto) { a.Tag = nil }, false},
		{func(a *api.Auto) { a.Next = a.Next[:2] }, false},
		{func(a *api.Auto) { a.Next, a.Tag = a.Next[:2], a.Tag[:2] }, false}, // a successor is missing
		{func(a *api.Auto) { a.Next = append(a.Next, []int{0, 0, 0}) }, false},
		{func(a *api.Auto) { a.Next, a.Tag = append(a.Next, []int{0, 3, -1}), append(a.Tag, 0) }, true},
		{func(a *api.Auto) { a.Next, a.Tag = append(a.Next, []int{0, 4, -1}), append(a.Tag, 0) }, false},
		{func(a *api.Auto) { a.Next, a.Tag = append(a.Next, nil), append(a.Tag, 0) }, false},
		{func(a *api.Auto) { a.Next = nil }, false},
		{func(a *api.Auto) { a.Next, a.Tag = nil, nil }, true},
		{func(a *api.Auto) { a.Next, a.Tag = [][]int{}, []int{} }, true},
		{func(a *api.Auto) { a.Next, a.Tag = [][]int{{}}, []int{0} }, false},
		{func(a *api.Auto) { a.Class = classes() }, false}, // fewer classes than successors
		{func(a *api.Auto) { a.Class = classes("a") }, false},
		{func(a *api.Auto) { a.Class = classes("a", "b", "c") }, false},
		{func(a *api.Auto) { a.Class = classes("xyz", "za") }, false},
		{func(a *api.Auto) { a.Class = classes("xyz", "xyza") }, true},
		{func(a *api.Auto) { a.Class['a'], a.Class['b'] = 2, 1 }, false}, // not in the order of the bytes
		{func(a *api.Auto) { a.Class['`'] = 1 }, true},
		{func(a *api.Auto) { a.Class['`'] = 2 }, false},
		{func(a *api.Auto) { a.Class['c'] = 2 }, true},
		{func(a *api.Auto) { a.Class['c'] = 3 }, false},
	} {
		a := small()
		x.change(&a)
		right(t, a, x.want)
	}
}

// J4: any number at any place.
func TestRightNumbers(t *testing.T) {
	numbers := []int{math.MinInt, math.MinInt + 1, -1 << 32, -256, -3, -2, -1, 0, 1, 2, 3, 4, 5, 255, 256, 1 << 32, 1<<32 + 1, math.MaxInt - 1, math.MaxInt}
	for _, n := range numbers {
		for state := range 3 {
			a := small()
			a.Tag[state] = n
			right(t, a, n >= 0)
			for class := range 3 {
				a = small()
				a.Next[state][class] = n
				right(t, a, n >= -1 && n <= 2)
			}
		}
		for b := range 256 {
			a := small()
			a.Class[b] = n
			right(t, a, modelRight(a))
		}
		for _, rows := range [][]int{{}, {0}, {0, 1}} {
			right(t, api.Auto{Next: [][]int{rows}, Tag: []int{0}}, len(rows) == 1)
			right(t, api.Auto{Next: [][]int{append(rows, n)}, Tag: []int{0}}, len(rows) == 0 && (n == 0 || n == -1))
		}
		right(t, api.Auto{Class: [256]int{n}}, n == 0)
		right(t, api.Auto{Class: [256]int{0, n}}, n == 0 || n == 1)
		right(t, api.Auto{Class: [256]int{255: n}}, n == 0 || n == 1)
		right(t, api.Auto{Class: [256]int{254: 1, 255: n}}, n == 0 || n == 1 || n == 2)
	}
}

// J4: from no state on, and with classes from one on.
func TestRightSizes(t *testing.T) {
	right(t, api.Auto{}, true)
	right(t, api.Auto{Tag: []int{1}}, false)
	right(t, api.Auto{Next: [][]int{{0}}}, false)
	var all api.Auto
	for b := range all.Class {
		all.Class[b] = b
	}
	right(t, all, true)
	for n := range 300 {
		all.Next, all.Tag = [][]int{make([]int, n)}, []int{1}
		right(t, all, n == 256)
	}
	all.Class[255]++
	right(t, api.Auto{Class: all.Class}, false)
	for b := range all.Class {
		all.Class[b] = 255 - b
	}
	right(t, api.Auto{Class: all.Class}, false)
	for n := range 256 {
		var a api.Auto
		for b := n; b < 256; b++ {
			a.Class[b] = 1
		}
		right(t, a, n > 0)
	}
}

// J4: in each row of many, also the last one, each place counts.
func TestRightOfMany(t *testing.T) {
	a := newDraw(6).auto(300, 5)
	right(t, a, true)
	for state, row := range a.Next {
		for class, n := range row {
			for _, wrong := range []int{-2, 300, math.MaxInt} {
				row[class] = wrong
				right(t, a, false)
			}
			row[class] = 299
			right(t, a, true)
			row[class] = n
		}
		a.Next[state] = row[:len(row)-1]
		right(t, a, false)
		a.Next[state] = append(slices.Clone(row), 0)
		right(t, a, false)
		a.Next[state] = row
		a.Tag[state] = -1
		right(t, a, false)
		a.Tag[state] = math.MaxInt
		right(t, a, true)
	}
}

// J4: drawn automata, valid or not.
func TestRightDrawn(t *testing.T) {
	d := newDraw(7)
	count := map[bool]int{}
	for range 20000 {
		right(t, d.auto(d.IntN(5), 1+d.IntN(5)), true)
		a := d.wrong()
		right(t, a, modelRight(a))
		count[modelRight(a)]++
	}
	if count[true] < 1000 || count[false] < 1000 {
		t.Errorf("of those that were drawn, %v were valid", count)
	}
}
