package least_test

import (
	"math"
	"slices"
	"testing"

	"reglet/api"
	"reglet/auto"
	"reglet/byteset"
	"reglet/least"
	"reglet/regex"
)

// K1: automata that are written out.
func TestLeast(t *testing.T) {
	for _, x := range []struct {
		name string
		a    api.Auto
		want api.Auto
	}{
		{"one state", of("-", "1"), of("-", "1")},
		{"all strings", of("0", "1"), of("0", "1")},
		{"all strings, by two states", of("1 0", "11"), of("0", "1")},
		{"another tag", of("1 0", "12"), of("1 0", "12")},
		{"an unreached state beside the first", of("0 1", "12"), of("0", "1")},
		{"a string of one byte", of("1 -", "01"), of("1 -", "01")},
		{"minimal already", of("-1 -1", "01", "a"), of("-1 -1", "01", "a")},
		{"minimal already, with two tags", of("-12 --- -1-", "012", "a", "b"), of("-12 --- -1-", "012", "a", "b")},
		{"minimal already, back to the first", of("-12 --0 -0-", "100", "a", "b"), of("-12 --0 -0-", "100", "a", "b")},

		{"two ends", of("-1 -2 -2", "011", "a"), of("-1 -1", "01", "a")},
		{"two ends and three tags", of("-1 -2 -2", "012", "a"), of("-1 -2 -2", "012", "a")},
		{"a greater cycle than there need be", of("-1 -2 -3 -0", "1010", "a"), of("-1 -0", "10", "a")},
		{"a cycle of three by one of six", of("-1 -2 -3 -4 -5 -0", "100100", "a"), of("-1 -2 -0", "100", "a")},
		{"a cycle that is no more than one state", of("-1 -2 -3 -0", "1111", "a"), of("-0", "1", "a")},
		{"a cycle of six that stays", of("-1 -2 -3 -4 -5 -0", "100200", "a"), of("-1 -2 -3 -4 -5 -0", "100200", "a")},
		{"the same behind each of two", of("-12 -3- -4- --- ---", "00011", "a", "b"), of("-11 -2- ---", "001", "a", "b")},
		{"the same behind each of two, but for the tags", of("-12 -3- -4- --- ---", "00012", "a", "b"), of("-12 -3- -4- --- ---", "00012", "a", "b")},
		{"two cycles that are one", of("-12 -3- -4- -1- -2-", "00011", "a", "b"), of("-11 -2- -1-", "001", "a", "b")},
		{"the first state comes back", of("-1 -2 -1", "010", "a"), of("-1 -0", "01", "a")},
		{"the first state is the one of two that is left out", of("-1 -1", "11", "a"), of("-0", "1", "a")},
		{"two pairs with two tags", of("-12 -34 -43 --- ---", "01122", "a", "b"), of("-1 -2 --", "012", "ab")},

		{"nowhere by a state that is dead", of("12 11 --", "001", "b"), of("-1 --", "01", "b")},
		{"nowhere by two dead states", of("123 121 212 ---", "0001", "b", "c"), of("-1 --", "01", "c")},
		{"a dead state without steps", of("-12 --- ---", "010", "a", "b"), of("-1 --", "01", "a")},
		{"a dead state that tells classes apart", of("11 2- 2-", "010", "a"), of("1 -", "01")},
		{"an unreached state", of("-1 -- -1", "010", "a"), of("-1 --", "01", "a")},
		{"an unreached state that tells classes apart", of("11 -- 01", "011", "a"), of("1 -", "01")},
		{"an unreached state that is the only one with its tag", of("-1 -- -1", "012", "a"), of("-1 --", "01", "a")},
		{"an unreached state that is equivalent to a reached one", of("-2 -2 --", "001", "a"), of("-1 --", "01", "a")},
		{"unreached states that lead to each other", of("-0 -2 -1", "112", "a"), of("-0", "1", "a")},

		{"numbers by the order of the classes", of("-21 --- ---", "012", "a", "b"), of("-12 --- ---", "021", "a", "b")},
		{"numbers by the order of the states", of("-21 -4- -3- --- ---", "00012", "a", "b"), of("-12 -3- -4- --- ---", "00012", "a", "b")},
		{"numbers by breadth, not by depth", of("-14 -2- -3- --- -3-", "00210", "a", "b"), of("-12 -3- -4- -4- ---", "00021", "a", "b")},
		{"numbers that close up", of("-9 -- -- -- -- -- -- -- -- -5", "0000010000", "a"), of("-1 -2 --", "001", "a")},

		{"classes that become one", of("-111 ----", "01", "a", "b", "c"), of("-1 --", "01", "abc")},
		{"classes that become one with the others", of("111 ---", "01", "a", "b"), of("1 -", "01")},
		{"every second class", of("-1212 ----- -----", "012", "a", "b", "c", "d"), of("-12 --- ---", "012", "ac", "bd")},
		{"the last class is the first one", of("122- ---- ----", "012", "a", "b", "\xff"), of("12- --- ---", "012", "ab", "\xff")},
		{"the last class becomes the first one", of("1221 ---- ----", "012", "a", "b", "\xff"), of("12 -- --", "012", "ab")},
		{"a class that only the last state tells apart", of("-11 -22 -33 -3-", "0001", "a", "b"), of("-11 -22 -33 -3-", "0001", "a", "b")},
		{"classes by which the successors are equivalent", of("-12 --- ---", "011", "a", "b"), of("-1 --", "01", "ab")},
		{"classes by which one successor is dead", of("-12 --- --2", "010", "a", "b"), of("-1 --", "01", "a")},
		{"the byte 0 and the others", of("-1 --", "01", "\x00"), of("-1 --", "01", "\x00")},
	} {
		if m, e := least.Least(x.a); e != api.OK || !equal(m, x.want) {
			t.Errorf("%s: error %d, %s, want %s", x.name, e, told(m), told(x.want))
		}
		asModel(t, x.a)
		asPromised(t, x.a)
	}
}

// K1: no string has a tag.
func TestNoStates(t *testing.T) {
	for name, a := range map[string]api.Auto{
		"no states":                     {},
		"no states, but lists":          {Next: [][]int{}, Tag: []int{}},
		"no states, but classes":        {Class: classes("a", "b")},
		"no states, but all classes":    {Class: each()},
		"no tag":                        of("-", "0"),
		"no tag, but steps":             of("012 120 201", "000", "a", "b"),
		"a tag at an unreached state":   of("-0 -1", "01", "a"),
		"tags at all unreached states":  of("-0 -0 12 33", "0123", "a"),
		"a tag from which 0 is reached": of("- 0", "01"),
		"no step, but tags":             of("-- 01 11", "012", "a"),
		"a tag behind unreached states": of("-1 0- -3 --", "0001", "a"),
		"all classes, and no tag":       {Class: each(), Next: rows(3, 256), Tag: []int{0, 0, 1}},
	} {
		if m, e := least.Least(a); e != api.OK || !equal(m, api.Auto{}) {
			t.Errorf("%s: error %d, %s", name, e, told(m))
		}
	}
}

// K1: any numbers are tags.
func TestTags(t *testing.T) {
	tags := []int{1, 2, 3, 9, 10, 11, 12, 21, 99, 100, 101, 110, 255, 256, 257, 1 << 31, 1 << 32, 1<<32 + 1, math.MaxInt - 1, math.MaxInt}
	for _, x := range tags {
		for _, y := range tags {
			a, want := of("12 -- --", "000", "a"), of("12 -- --", "000", "a")
			a.Tag[1], a.Tag[2] = x, y
			want.Tag = a.Tag
			if x == y {
				want = of("1 -", "00")
				want.Tag[1] = x
			}
			becomes(t, a, want)
		}
	}
	// More tags than there are bytes, each of them twice.
	a := api.Auto{Class: each(), Next: rows(1+256*2, 256)}
	want := api.Auto{Class: each(), Next: rows(1+256, 256), Tag: []int{0}}
	a.Tag = make([]int, len(a.Next))
	for b := range 256 {
		a.Next[0][b], want.Next[0][b] = 512-b, b+1
		a.Tag[512-b], a.Tag[256-b] = 1000-b, 1000-b
		want.Tag = append(want.Tag, 1000-b)
		a.Next[512-b][b], want.Next[b+1][b] = 256-b, b+1
		a.Next[256-b][b] = 512 - b
	}
	becomes(t, a, want)
}

// K1: all automata of few states.
func TestLeastOfAll(t *testing.T) {
	for _, x := range []struct{ states, classes, tags int }{{1, 1, 2}, {2, 1, 2}, {3, 1, 2}, {4, 1, 1}, {1, 2, 2}, {2, 2, 2}, {3, 2, 1}, {1, 3, 2}, {2, 3, 2}} {
		a := api.Auto{Class: classes("ac", "bc"), Next: rows(x.states, x.classes), Tag: make([]int, x.states)}
		for b, class := range a.Class {
			a.Class[b] = min(class, x.classes-1)
		}
		for range all(a, x.tags) {
			asModel(t, a)
		}
	}
}

// all counts an automaton through all successors and tags.
func all(a api.Auto, tags int) func(func() bool) {
	return func(yield func() bool) {
		for yield() && counted(a, tags) {
		}
	}
}

// counted makes the next automaton of an automaton. It returns false behind the last one.
func counted(a api.Auto, tags int) bool {
	for s, row := range a.Next {
		if a.Tag[s]++; a.Tag[s] <= tags {
			return true
		}
		a.Tag[s] = 0
		for c := range row {
			if row[c]++; row[c] < len(a.Next) {
				return true
			}
			row[c] = -1
		}
	}
	return false
}

// K1: drawn automata, of which some become smaller and some do not.
func TestLeastDrawn(t *testing.T) {
	d := newDraw(1)
	count := map[string]int{}
	for range 4000 {
		a := d.auto(1+d.IntN(9), 1+d.IntN(5), 1+d.IntN(3))
		asModel(t, a)
		asPromised(t, a)
		m := minimal(t, a)
		switch classes, most := slices.Max(m.Class[:]), slices.Max(a.Class[:]); {
		case len(m.Next) == 0:
			count["none"]++
		case len(m.Next) < len(a.Next) && classes < most:
			count["both"]++
		case len(m.Next) < len(a.Next):
			count["states"]++
		case classes < most:
			count["classes"]++
		case equal(m, a):
			count["same"]++
		default:
			count["order"]++
		}
	}
	for _, name := range []string{"none", "both", "states", "classes", "same", "order"} {
		if count[name] < 50 {
			t.Errorf("of those that were drawn, %v became smaller", count)
		}
	}
}

// K1: larger automata, with many equivalent states and with none.
func TestLeastOfMany(t *testing.T) {
	d := newDraw(2)
	for range 40 {
		a := d.auto(20+d.IntN(60), 1+d.IntN(8), 1)
		asModel(t, a)
		asPromised(t, a)
	}
	for range 10 {
		small := d.auto(10+d.IntN(20), 1+d.IntN(30), 3)
		a := d.grown(small, 200)
		asModel(t, small)
		becomes(t, a, modelLeast(small))
	}
}

// K1: drawn automata with long ways and few tags, so that each part of the states by which others are divided counts.
func TestLongWays(t *testing.T) {
	d := newDraw(3)
	for range 400 {
		n, classes := 2+d.IntN(60), 1+d.IntN(3)
		a := api.Auto{Class: d.classes(classes), Next: rows(n, classes), Tag: make([]int, n)}
		for i, row := range a.Next {
			for c := range row {
				switch d.IntN(12) {
				case 0:
					row[c] = d.IntN(n)
				case 1:
				default:
					row[c] = (i + 1 + c*n/3) % n
				}
			}
			if d.IntN(8) == 0 {
				a.Tag[i] = 1 + d.IntN(2)
			}
		}
		asModel(t, a)
		becomes(t, d.grown(a, d.IntN(100)), modelLeast(a))
	}
}

// K1: states that are told apart by long strings alone.
func TestLongStrings(t *testing.T) {
	for _, n := range []int{1, 2, 3, 10, 100, 257, 1000} {
		// Two ways of n states, of which only the ends differ.
		a := api.Auto{Class: classes("a", "b"), Next: rows(1+2*n, 3), Tag: make([]int, 1+2*n)}
		a.Next[0][1], a.Next[0][2] = 1, n+1
		for i := 1; i < n; i++ {
			a.Next[i][1], a.Next[n+i][1] = i+1, n+i+1
		}
		a.Tag[n], a.Tag[2*n] = 1, 1
		want := api.Auto{Class: a.Class, Next: slices.Clone(a.Next[:n+1]), Tag: a.Tag[:n+1]}
		want.Next[0], want.Next[n] = []int{-1, 1, 1}, []int{-1, -1, -1}
		if n == 1 {
			want = of("-1 --", "01", "ab")
		}
		becomes(t, a, want)
		a.Tag[2*n] = 2
		m := minimal(t, a)
		if len(m.Next) != 2*n+1 || m.Tag[2*n-1] != 1 || m.Tag[2*n] != 2 {
			t.Errorf("%d: %d states", n, len(m.Next))
		}
		isNumbered(t, m)
		// A cycle of 3n states, of which every n-th has a tag.
		a = api.Auto{Next: rows(3*n, 1), Tag: make([]int, 3*n)}
		for i := range a.Next {
			a.Next[i][0] = (i + 1) % len(a.Next)
		}
		a.Tag[0], a.Tag[n], a.Tag[2*n] = 1, 1, 1
		if m := minimal(t, a); len(m.Next) != n || m.Next[n-1][0] != 0 {
			t.Errorf("%d: %d states", n, len(m.Next))
		}
		a.Tag[2*n] = 2
		becomes(t, a, a)
	}
}

// isNumbered asks that states are numbered in the order in which they are led to.
func isNumbered(t *testing.T, a api.Auto) {
	t.Helper()
	known := 1
	for _, n := range slices.Concat(a.Next...) {
		if n > known {
			t.Fatalf("the state %d comes before the state %d", n, known)
		}
		known = max(known, n+1)
	}
	if known != len(a.Next) {
		t.Errorf("%d of %d states are led to", known, len(a.Next))
	}
}

// K1: there are 256 classes at most, each of which may count.
func TestAllClasses(t *testing.T) {
	for _, n := range []int{1, 2, 10, 127, 128, 129, 255, 256} {
		a := api.Auto{Class: each(), Next: rows(n+1, 256), Tag: make([]int, n+1)}
		want := api.Auto{Next: rows(n+1, n), Tag: make([]int, n+1)}
		for b := range 256 {
			a.Next[0][b] = n - b%n
			want.Class[b] = b % n
		}
		for i := range n {
			a.Tag[n-i], want.Tag[i+1], want.Next[0][i] = i+1, i+1, i+1
		}
		becomes(t, a, want)
	}
	// Two states of which only the last class is another one.
	for b := range 256 {
		a := api.Auto{Class: each(), Next: rows(2, 256), Tag: []int{1, 1}}
		for c := range 256 {
			a.Next[0][c], a.Next[1][c] = 1, 1
		}
		a.Next[1][b] = -1
		becomes(t, a, modelLeast(a))
		if m := minimal(t, a); len(m.Next) != 2 {
			t.Errorf("%d: %d states", b, len(m.Next))
		}
		a.Next[0][b] = -1
		if m := minimal(t, a); len(m.Next) != 1 || slices.Max(m.Class[:]) != 1 || m.Class[b] != 1-m.Class[(b+1)%256] {
			t.Errorf("%d: %s", b, told(m))
		}
	}
}

// K1: states with many sources, and steps between the same states by some classes, but not by the same ones.
func TestSignatures(t *testing.T) {
	const n = 9
	a := api.Auto{Class: classes("a", "b", "c", "d", "e", "f", "g", "h", "i"), Next: rows(1+1<<n, n+1), Tag: make([]int, 1+1<<n)}
	// From 0 a way leads to each state. Each state but 0 leads to itself by the classes of its bits.
	for i := 1; i < len(a.Next); i++ {
		a.Tag[i] = 1
		a.Next[i-1][0] = i
		for bit := range n {
			if i>>bit&1 == 1 {
				a.Next[i][bit+1] = i
			}
		}
	}
	m := minimal(t, a)
	sameTags(t, a, m)
	isNumbered(t, m)
	if len(m.Next) != len(a.Next) {
		t.Errorf("%d states", len(m.Next))
	}
	becomes(t, m, m)
}

// K1: states of different parts, and classes, are not the same because the numbers that tell of them look alike when they stand in a row.
func TestNumbersThatLookAlike(t *testing.T) {
	// For each of many tags, states that lead to 0 by no class, by one, and by two of which one is the byte of a digit. Beside these, there are the states between them and 0.
	const tags, variants, wide = 120, 12, 120
	n := tags * variants
	a := api.Auto{Class: each(), Next: rows(1+n+n/wide, 256), Tag: []int{1000}}
	for i := range n {
		state, between := 1+i, 1+n+i/wide
		a.Tag = append(a.Tag, 1+i/variants)
		if variant := i % variants; variant > 0 {
			a.Next[state][200] = 0
			if variant > 1 {
				a.Next[state]["0123456789"[variant-2]] = 0
			}
		}
		a.Next[between][60+i%wide] = state
		a.Next[0][60+i/wide] = between
	}
	for i := range n / wide {
		a.Tag = append(a.Tag, 2000+i)
	}
	m := minimal(t, a)
	sameTags(t, a, m)
	if len(m.Next) != len(a.Next) {
		t.Errorf("%d states", len(m.Next))
	}
	// Strings lead to all states by the last classes. By the others, only the states 100 and 101 have successors: another pair by each class.
	a = api.Auto{Class: each(), Next: rows(241, 256)}
	for i := range a.Next {
		a.Tag = append(a.Tag, 1+i)
	}
	for i := range 240 {
		a.Next[i/60][196+i%60] = i + 1
	}
	class := 0
	ends := []int{-1, 1, 2, 11, 12, 21, 22, 111, 112, 121, 211, 212, 221, 222}
	for _, one := range ends {
		for _, two := range ends {
			a.Next[100][class], a.Next[101][class] = one, two
			class++
		}
	}
	becomes(t, a, a)
}

// The chapter's example, and automata as layer 9 builds them.
func TestBuilt(t *testing.T) {
	one := func(b int) api.Re { return regex.Of(byteset.Of(b, b)) }
	a, b := one('a'), one('b')
	becomes(t, built(t, regex.Cat([]api.Re{a, regex.Star(a)})), of("-1 -1", "01", "a"))
	becomes(t, built(t, regex.Cat([]api.Re{regex.Star(a), regex.Star(a)})), of("-0", "1", "a"))
	becomes(t, built(t, a, b), of("-12 --- ---", "012", "a", "b"))
	becomes(t, built(t, regex.Either([]api.Re{a, b})), of("-1 --", "01", "ab"))
	becomes(t, built(t, regex.Either([]api.Re{a, regex.Cat([]api.Re{b, b})}), a), of("-12 --- --1", "010", "a", "b"))
	becomes(t, built(t), api.Auto{})
	becomes(t, built(t, api.Re{}), api.Auto{})
	becomes(t, built(t, regex.Cat([]api.Re{a, api.Re{}})), api.Auto{})
	becomes(t, built(t, api.Re{}, api.Re{Kind: api.Empty}), of("-", "2"))
	// Many states that count where they are alone, but not behind an expression that derives all.
	both := regex.Either([]api.Re{a, b})
	seventh := regex.Cat(append([]api.Re{regex.Star(both), a}, slices.Repeat([]api.Re{both}, 6)...))
	alone, hidden := built(t, seventh), built(t, regex.Star(both), seventh)
	if len(alone.Next) < 128 || len(hidden.Next) < 128 {
		t.Fatalf("%d and %d states", len(alone.Next), len(hidden.Next))
	}
	becomes(t, hidden, of("-0", "1", "ab"))
	m := minimal(t, alone)
	if len(m.Next) != 128 || m.Class != classes("a", "b") {
		t.Errorf("%d states", len(m.Next))
	}
	for s, want := range map[string]int{"abbbbbb": 7, "abbbbbba": 7, "aabbbbbb": 8, "babbbbbb": 8, "bbbbbbb": -1, "aaaaaa": -1, "": -1, "abbbbbbc": 7} {
		if length, _ := auto.Longest(m, s, 0); length != want {
			t.Errorf("%q: %d, want %d", s, length, want)
		}
	}
}
