package auto_test

import (
	"math"
	"strings"
	"testing"

	"reglet/api"
	"reglet/auto"
)

// longest asks for a longest match.
func longest(t *testing.T, a api.Auto, s string, at, length, tag int) {
	t.Helper()
	if gotLength, gotTag := auto.Longest(a, s, at); gotLength != length || gotTag != tag {
		t.Errorf("%s from %d: %d with %d, want %d with %d", short(strings.ToValidUTF8(s, "?")), at, gotLength, gotTag, length, tag)
	}
}

// J3: matches that are written out.
func TestLongest(t *testing.T) {
	a := build(t, append(res("ab a+ abcde"), re("[ \t]")))
	for _, x := range []struct {
		s               string
		at, length, tag int
	}{
		{"", 0, -1, 0}, {"a", 0, 1, 2}, {"aa", 0, 2, 2}, {"ab", 0, 2, 1}, {"b", 0, -1, 0}, {"ba", 0, -1, 0}, {"ba", 1, 1, 2}, {"ba", 2, -1, 0},
		// It goes back to the last one on the way.
		{"abc", 0, 2, 1}, {"abcd", 0, 2, 1}, {"abcde", 0, 5, 3}, {"abcdf", 0, 2, 1}, {"abcdef", 0, 5, 3}, {"abcdeab", 5, 2, 1}, {"aabcde", 0, 2, 2}, {"aabcde", 1, 5, 3},
		{"x ab", 1, 1, 4}, {"x ab", 2, 2, 1}, {"x ab", 3, -1, 0}, {"x\t\t", 1, 1, 4}, {"a\x00", 0, 1, 2}, {"a\xff", 0, 1, 2}, {"\xffa", 1, 1, 2},
	} {
		longest(t, a, x.s, x.at, x.length, x.tag)
	}
	// The empty prefix, if the first state has a tag.
	empty := build(t, res("b (ab)*"))
	for s, want := range map[string][2]int{"": {0, 2}, "a": {0, 2}, "aba": {2, 2}, "abab": {4, 2}, "b": {1, 1}, "x": {0, 2}, "ba": {1, 1}} {
		longest(t, empty, s, 0, want[0], want[1])
		longest(t, empty, "b"+s, 1, want[0], want[1])
		longest(t, empty, s, len(s), 0, 2)
	}
	longest(t, build(t, res("()")), "", 0, 0, 1)
	longest(t, build(t, nil), "", 0, -1, 0)
	longest(t, build(t, nil), "a", 0, -1, 0)
	longest(t, api.Auto{}, "", 0, -1, 0)
	longest(t, api.Auto{}, "a", 0, -1, 0)
}

// J3: places that are not in the string.
func TestLongestOutside(t *testing.T) {
	a := build(t, res("a*"))
	for _, s := range []string{"", "a", "aaaaa"} {
		for at := -3; at <= len(s)+3; at++ {
			if at >= 0 && at <= len(s) {
				longest(t, a, s, at, len(s)-at, 1)
			} else {
				longest(t, a, s, at, -1, 0)
			}
		}
		for _, at := range []int{math.MinInt, math.MinInt + 1, -1 << 32, 1 << 32, math.MaxInt - 1, math.MaxInt} {
			longest(t, a, s, at, -1, 0)
			longest(t, api.Auto{}, s, at, -1, 0)
		}
	}
	// What comes behind the string that is asked about is not in it.
	longest(t, a, "aaaa"[:2], 1, 1, 1)
	longest(t, a, "aaaa"[:2], 3, -1, 0)
}

// J3: a state without an entry in Tag ends the way, wherever it is; other states need no successors.
func TestLongestOfEntries(t *testing.T) {
	line := func(n int, tag ...int) api.Auto {
		a := api.Auto{Tag: tag}
		for i := range n {
			a.Next = append(a.Next, []int{i + 1})
		}
		return a
	}
	for _, x := range []struct {
		a           api.Auto
		length, tag int
	}{
		{line(0), -1, 0}, {line(5), -1, 0}, {line(0, 3), 0, 3}, {line(0, 0), -1, 0}, {line(0, 3, 4), 0, 3},
		{line(1, 3), 0, 3}, {line(1, 0), -1, 0}, {line(1, 0, 4), 1, 4}, {line(1, 3, 4), 1, 4}, {line(1, 3, 0), 0, 3}, {line(1, 3, 4, 5), 1, 4},
		{line(5, 0, 0, 7), 2, 7}, {line(5, 0, 6, 0), 1, 6}, {line(5, 6, 0, 0), 0, 6}, {line(5, 0, 0, 0), -1, 0},
		// Numbers that are no tags are entries, too.
		{line(5, -1, -2, 7), 2, 7}, {line(5, math.MinInt, 7, -3), 1, 7}, {line(5, 7, -3, -3, math.MaxInt), 3, math.MaxInt}, {line(5, -1, -1, -1), -1, 0},
	} {
		longest(t, x.a, "aaa", 0, x.length, x.tag)
		longest(t, x.a, "xxaaa", 2, x.length, x.tag)
		longest(t, x.a, "aaaaaaaaaa", 0, x.length, x.tag)
	}
	// What is behind the ends of the lists is in none of them.
	hidden := line(3, 1, 2, 3, 4)
	hidden.Tag = hidden.Tag[:2]
	longest(t, hidden, "aaa", 0, 1, 2)
	hidden = line(3, 1, 2, 3, 4)
	hidden.Next = hidden.Next[:1]
	longest(t, hidden, "aaa", 0, 1, 2)
	// Successors that are no states.
	for _, n := range []int{-2, -3, 4, 5, math.MaxInt, math.MinInt} {
		a := line(3, 1, 2, 3, 4)
		a.Next[1][0] = n
		longest(t, a, "aaa", 0, 1, 2)
	}
	// A state that has a tag, but no successors.
	a := line(3, 1, 2, 3, 4, 5, 6)
	a.Next[1][0] = 5
	longest(t, a, "aaa", 0, 2, 6)
}

// J3: drawn automata, valid or not, and drawn strings.
func TestLongestDrawn(t *testing.T) {
	d := newDraw(5)
	found := 0
	for i := range 6000 {
		a := d.auto(1+d.IntN(6), 1+d.IntN(6))
		if i%2 == 0 {
			a = d.wrong()
		}
		for range 5 {
			s := d.string(8)
			at := d.IntN(len(s)+3) - 1
			length, tag := modelLongest(a, s, at)
			longest(t, a, s, at, length, tag)
			if length > 2 {
				found++
			}
		}
	}
	if found < 1000 {
		t.Errorf("only %d long matches", found)
	}
}

// J3: strings of any length.
func TestLongestOfLong(t *testing.T) {
	const n = 1000000
	s := strings.Repeat("ab", n/2)
	a := build(t, res("(ab)* b ab[ab]*c"))
	longest(t, a, s, 0, n, 1)
	longest(t, a, s, 2, n-2, 1)
	longest(t, a, s, n-1, 1, 2)
	longest(t, a, s, n, 0, 1)
	longest(t, a, s+"a", 0, n, 1)
	longest(t, a, s+"c", 0, n+1, 3)
	longest(t, a, s+"bbbbbc", 10, n-4, 3)
}
