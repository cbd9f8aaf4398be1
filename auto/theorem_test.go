package auto_test

import (
	"regexp"
	"strings"
	"testing"

	"reglet/api"
	"reglet/auto"
	"reglet/deriv"
)

// theorem asks which tags strings reach in the automaton of some expressions, by the matches of the library's package regexp, and of the layer below.
func theorem(t *testing.T, l []string, strs []string) {
	t.Helper()
	var exprs []api.Re
	var matchers []*regexp.Regexp
	for _, x := range l {
		exprs = append(exprs, re(x))
		matchers = append(matchers, regexp.MustCompile(`^(?s:`+strings.ReplaceAll(x, "!", `[^\x00-\x{10FFFF}]`)+`)$`))
	}
	a := build(t, exprs)
	if !auto.Right(a) {
		t.Fatalf("%s: not valid", l)
	}
	for _, s := range strs {
		want, matched := 0, 0
		for i := len(l); i > 0; i-- {
			if matchers[i-1].MatchString(s) {
				want = i
			}
			if deriv.Match(exprs[i-1], s) {
				matched = i
			}
		}
		if got := modelTag(a, s); got != want || got != matched {
			t.Errorf("%s: %q reaches %d, and is derived by %d, or %d", l, s, got, want, matched)
		}
	}
}

// J5: an automaton reaches the tag of the first expression that derives a string.
func TestReached(t *testing.T) {
	for _, l := range []string{
		"", "()", "!", "a", "a*", "ab|b", "a ab", "ab a* [ab]* .*", "(ab|ba)* a(bb)*", "abc ab. a.c .bc ...", "a+ b+ (a|b)+",
		"aa [ab]a [ab][ab] a", "(a|b|c)*abb (a|b|c)*", "a?b?c? (abc)+", "(a(b(c)*)*)* (abc)*", "[ab]*a[ab][ab] [ab]*b[ab][ab]",
	} {
		theorem(t, strings.Fields(l), words("abc", 6))
	}
}

// J5: so for expressions and strings that are drawn.
func TestReachedDrawn(t *testing.T) {
	d := newDraw(8)
	short := words("abc", 4)
	for range 300 {
		long := short
		for range 30 {
			if s := d.string(12); strings.ToValidUTF8(s, "") == s {
				long = append(long[:len(long):len(long)], s)
			}
		}
		theorem(t, d.patterns(5, 3), long)
	}
}

// J5: what Build returns is valid.
func TestBuildIsRight(t *testing.T) {
	d := newDraw(9)
	for range 1000 {
		var l []api.Re
		for _, x := range d.patterns(6, 4) {
			l = append(l, re(x))
		}
		a, e := auto.Build(l)
		if !auto.Right(a) || !modelRight(a) || (len(a.Next) == 0) != (e != api.OK) {
			t.Errorf("%s: error %d, not valid: %s", short(l), e, short(a))
		}
	}
}
