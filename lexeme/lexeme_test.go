package lexeme_test

import (
	"slices"
	"strings"
	"testing"
	"unicode/utf8"

	"reglet/api"
	"reglet/deriv"
	"reglet/regex"
)

// L1: grammars as people write them. The first strings are derived by the rule a, those behind the bar are not.
func TestWritten(t *testing.T) {
	for _, x := range []struct{ rules, strings string }{
		{`a = "x"`, `x X | xx y`},
		{`a = "x" / "y"`, `x Y | xy z`},
		{`a = "x" "y"`, `xy XY xY | x y yx xyy`},
		{`a = "x" / "y" "z" / "v"`, `x yz v | y z xz vz`},
		{`a = ("x" / "y") "z"`, `xz yz | x z xyz`},
		{`a = ["x"] "y"`, `xy y | x xxy`},
		{`a = "y" *"x"`, `y yx yxxxxx | x yy`},
		{`a = 1*"x"`, `x xx xxx | y xy`},
		{`a = 2"x"`, `xx | x xxx`},
		{`a = *2"x" "y"`, `y xy xxy | xxxy xx`},
		{`a = 2*3("x" "y")`, `xyxy xyxyxy | xy xyxyxyxy xyx`},
		{`a = 2*("x" / "y")`, `xx xy yyx | x y`},
		{`a = 0"x" "y"`, `y | xy x`},
		{`a = b c | b = "x" | c = "y"`, `xy | x y bc`},
		{`a = b / c | b = c "x" | c = "y"`, `y yx | x yxx`},
		{`a = b "x" | b = "y" / "z"`, `yx zx | y zyx`},
		{`a = *b | b = "x" / c | c = 2"y"`, `x yy xyyx | y xy yyy`},
		{`a = b b [b] | b = "x" / "yy"`, `xx xyy yyyyyy | x yyy xxxx`},
		{`a = "xy" / "yx"`, `xy XY yX | xx yy`},
		{`a = %x61.62 / %s"C"`, `ab C | AB c aB`},
		{`a = %x61-63`, `a b c | A d ab`},
		{`a = "true" / "false"`, `true FALSE | tru falsefalse`},
		{`a = [%x2D] int ["." 1*digit] | int = "0" / %x31-39 *digit`, `0 -0 10 1.5 -12.250 0.0 | 01 1. .5 -- -`},
		{`a = alpha *(alpha / digit / "-")`, `x X x1 a-b-c Z-9 | 1 -x x_`},
		{`a = 4hexdig`, `12aF 0000 AbCd | 12a 12345 12aG`},
		{`a = dquote *(%x20-21 / %x23-5B / %x5D-7E / "\" (dquote / "\")) dquote`, `"" "x" "a\"b" "\\" | " """ "\" x "\x"`},
		{`a = *(*"x" *"y") "z"`, `z xz xyxyyxz | x zz`},
		{`a = [["x"] ["y"]] "z"`, `z xz yz xyz | yxz x`},
		{`a = "x" / ["y"] / 2"z"`, `x y zz | z xy`},
	} {
		g := rules(t, x.rules)
		derived := true
		for _, s := range strings.Fields(x.strings) {
			if s == "|" {
				derived = false
				continue
			}
			for _, utf := range []bool{false, true} {
				for _, e := range []api.Expr{g[0].Expr, ref("a"), alt(ref("a"), fold("@")), seq(fold(""), ref("a")), rep(1, 1, ref("a"))} {
					derives(t, g, e, utf, s, derived)
				}
			}
		}
		if derived {
			t.Errorf("%s: no strings that are not derived", x.rules)
		}
	}
}

// L1: the chapter's example.
func TestExample(t *testing.T) {
	only(t, nil, rep(1, 2, fold("a")), "aAb", 4, func(s string) bool {
		return slices.Contains([]string{"a", "A", "aa", "aA", "Aa", "AA"}, s)
	})
	is(t, nil, rep(1, 2, fold("a")), "([65-65,97-97]{1|[65-65,97-97]})")
}

// L1: a Fold derives its text, where capital and small letters are equal, and nothing else.
func TestFolds(t *testing.T) {
	for c := byte(' '); c <= '~'; c++ {
		text := string([]byte{c})
		if c == '"' || text != strings.ToLower(text) {
			continue
		}
		for b := range 256 {
			s := string([]byte{byte(b)})
			for _, utf := range []bool{false, true} {
				derives(t, nil, fold(text), utf, s, s == text || s == strings.ToUpper(text))
			}
		}
		only(t, nil, fold("x"+text), text+"xXy", 3, func(s string) bool { return strings.ToLower(s) == "x"+text })
	}
	for _, text := range []string{"xy", "yx", "xx", "xyx", "x-y", "@[`{", "az", "k"} {
		only(t, nil, fold(text), text+strings.ToUpper(text), min(len(text)+1, 4), func(s string) bool { return strings.ToLower(s) == text })
	}
	// No other sign counts as a letter's: neither the Kelvin sign nor the long s.
	for _, s := range []string{"\u212a", "\u017f", "\xeb", "\xcb"} {
		derives(t, nil, alt(fold("k"), fold("s")), true, s, false)
	}
	long := strings.Repeat("reglet ", 100)
	derives(t, nil, fold(long), false, strings.ToUpper(long), true)
	derives(t, nil, fold(long), false, long[1:], false)
}

// L1: an empty Fold derives the empty string, and nothing else.
func TestEmptyFold(t *testing.T) {
	empty, x := fold(""), fold("x")
	isEmpty := func(s string) bool { return s == "" }
	for _, e := range []api.Expr{empty, alt(empty, empty), seq(empty, empty), option(empty), star(empty), rep(1, -1, empty), rep(3, 3, empty), rep(2, 5, empty), rep(200, 200, empty), rep(0, 200, star(option(empty)))} {
		only(t, nil, e, "xX", 3, isEmpty)
		only(t, nil, seq(e, x, e), "xy", 3, func(s string) bool { return s == "x" })
		only(t, nil, alt(e, x), "xy", 3, func(s string) bool { return s == "x" || s == "" })
		is(t, nil, e, "1")
	}
}

// L1: a repetition derives its kid as often as it says.
func TestCounts(t *testing.T) {
	x := fold("x")
	for least := range 5 {
		for most := -1; most < 6; most++ {
			if most >= 0 && most < least {
				continue
			}
			isCount := func(n int) bool { return n >= least && (most < 0 || n <= most) }
			onlyX := func(s string) bool { return strings.Trim(s, "x") == "" }
			only(t, nil, rep(least, most, x), "xy", 8, func(s string) bool { return onlyX(s) && isCount(len(s)) })
			only(t, nil, rep(least, most, fold("xx")), "xy", 8, func(s string) bool {
				return onlyX(s) && len(s)%2 == 0 && isCount(len(s)/2)
			})
			only(t, nil, seq(x, rep(least, most, fold("y")), x), "xy", 8, func(s string) bool {
				return len(s) >= 2 && s[0] == 'x' && s[len(s)-1] == 'x' && strings.Trim(s[1:len(s)-1], "y") == "" && isCount(len(s)-2)
			})
			// If the kid may be empty, fewer are enough.
			for _, e := range []api.Expr{option(x), alt(x, fold("")), alt(fold(""), fold(""), x), rep(0, 1, rep(1, 1, x))} {
				only(t, nil, rep(least, most, e), "xy", 7, func(s string) bool { return onlyX(s) && (most < 0 || len(s) <= most) })
			}
			for _, e := range []api.Expr{star(x), star(option(x)), option(star(x)), rep(0, 200, star(x)), star(star(x))} {
				only(t, nil, rep(least, most, e), "xy", 6, func(s string) bool { return onlyX(s) && (most != 0 || s == "") })
			}
		}
	}
}

// L1: repetitions in repetitions.
func TestCountsOfCounts(t *testing.T) {
	x := fold("x")
	counts := [][2]int{{0, 0}, {0, 1}, {0, -1}, {0, 2}, {1, 1}, {1, -1}, {1, 2}, {2, 2}, {2, -1}, {2, 3}}
	for _, outer := range counts {
		for _, middle := range counts {
			for _, inner := range counts {
				e := rep(outer[0], outer[1], rep(middle[0], middle[1], rep(inner[0], inner[1], x)))
				r := regexOf(t, nil, e, false)
				for n := range 20 {
					if want := sensed(nil, e, false, strings.Repeat("x", n)); deriv.Nullable(r) != want {
						t.Errorf("%v of %v of %v: %d are derived: %v", outer, middle, inner, n, !want)
					}
					r = deriv.Deriv(r, 'X')
				}
			}
		}
	}
}

// L1: the greatest counts.
func TestGreatCounts(t *testing.T) {
	x, y := fold("x"), fold("y")
	for _, c := range []struct{ least, most int }{{0, 200}, {1, 200}, {199, 200}, {200, 200}, {200, -1}, {199, 199}, {100, 199}, {100, -1}} {
		for _, e := range []api.Expr{x, seq(x, option(y)), alt(x, seq(y, y)), rep(1, 1, x)} {
			r := regexOf(t, nil, rep(c.least, c.most, e), true)
			for n := range 203 {
				want := n >= c.least && (c.most < 0 || n <= c.most)
				if deriv.Nullable(r) != want {
					t.Errorf("%d to %d: %d are derived: %v", c.least, c.most, n, !want)
				}
				r = deriv.Deriv(r, 'x')
			}
		}
	}
}

// L1: of what may be left out, or comes any number of times by itself, each smaller number is derived too, and no greater one.
func TestGreatCountsOfOptions(t *testing.T) {
	x := fold("x")
	for _, c := range []struct{ least, most int }{{0, 200}, {1, 200}, {199, 200}, {200, 200}, {200, -1}, {100, 199}} {
		for _, e := range []api.Expr{option(x), star(x), option(star(x)), star(option(x)), rep(1, 1, option(x)), rep(0, 1, option(x)), rep(3, 3, star(x))} {
			hasEnd := e.Max == 1 && e.Kids[0].Max != -1
			r := regexOf(t, nil, rep(c.least, c.most, e), true)
			for n := range 203 {
				want := !hasEnd || c.most < 0 || n <= c.most
				if deriv.Nullable(r) != want {
					t.Errorf("%d to %d of %s: %d are derived: %v", c.least, c.most, short(e), n, !want)
				}
				r = deriv.Deriv(r, 'x')
			}
		}
	}
}

// L1: what is taken never derives the empty string, whatever it is.
func TestNever(t *testing.T) {
	g := []api.Rule{rule("b", fold("x")), rule("n", rep(0, 0, ref("b"))), rule("m", ref("n")), rule("o", rep(5, 5, ref("m")))}
	for _, kid := range []api.Expr{fold("x"), fold(""), ref("b"), nums(300), nums(0xD800), span(0, 255), star(fold("x")), rep(3, 3, fold("x")), rep(0, 0, fold("x")), alt(fold("x"), fold("y")), seq(fold("x"), fold("y"))} {
		never := rep(0, 0, kid)
		for _, e := range []api.Expr{never, star(never), option(never), rep(1, -1, never), rep(7, 9, never), rep(0, 5, never), rep(1, 1, never), rep(0, 0, never), seq(never, never), alt(never, never), seq(never, fold("")), star(seq(never, never)), ref("n"), ref("m"), ref("o"), star(ref("n")), rep(2, 3, ref("o"))} {
			is(t, g, e, "1")
			only(t, g, seq(fold("x"), e, fold("y")), "xy", 3, func(s string) bool { return s == "xy" })
			only(t, g, alt(fold("x"), e), "xy", 2, func(s string) bool { return s == "x" || s == "" })
			only(t, g, rep(2, 2, alt(e, fold("x"))), "xy", 3, func(s string) bool { return strings.Trim(s, "x") == "" && len(s) < 3 })
		}
	}
}

// edges are the numbers at which encodings change, and their neighbours.
var edges = []int{0, 1, 0x40, 0x7E, 0x7F, 0x80, 0x81, 0xBF, 0xC0, 0xFE, 0xFF, 0x100, 0x101, 0x7FE, 0x7FF, 0x800, 0x801, 0xFFF, 0x1000, 0xCFFF, 0xD000, 0xD7FE, 0xD7FF, 0xD800, 0xD801, 0xDBFF, 0xDC00, 0xDFFE, 0xDFFF, 0xE000, 0xE001, 0xFFFE, 0xFFFF, 0x10000, 0x10001, 0x3FFFF, 0x40000, 0xFFFFF, 0x100000, 0x10FFFE, greatest}

// noTexts are strings that are no text of UTF-8, and all bytes.
func noTexts() []string {
	l := []string{"\xc0\x80", "\xc1\xbf", "\xe0\x80\x80", "\xe0\x9f\xbf", "\xed\xa0\x80", "\xed\xbf\xbf", "\xf0\x80\x80\x80", "\xf0\x8f\xbf\xbf", "\xf4\x90\x80\x80", "\xf5\x80\x80\x80", "\xe2\x82", "\xf0\x9f\x98", "\xed\xa0\x80\xed\xb0\x80"}
	for b := range 256 {
		l = append(l, string([]byte{byte(b)}))
	}
	return append(l, "")
}

// L1: numbers, with utf and without.
func TestNumbers(t *testing.T) {
	for _, n := range edges {
		isScalar := utf8.ValidRune(rune(n))
		for _, m := range edges {
			if isScalar {
				derives(t, nil, nums(n), true, string(rune(m)), n == m)
			} else {
				derives(t, nil, nums(n), true, string(rune(m)), false)
			}
		}
		for _, s := range noTexts() {
			derives(t, nil, nums(n), true, s, isScalar && s == string(rune(n)))
			derives(t, nil, nums(n), false, s, n < 256 && s == string([]byte{byte(n)}))
		}
		if isScalar && n > 127 {
			derives(t, nil, nums(n), false, string(rune(n)), false)
		}
		if n > 255 {
			is := regexOf(t, nil, nums(n), false)
			if is.Kind != api.None {
				t.Errorf("%d derives %s", n, regex.Text(is))
			}
		}
	}
}

// L1: several numbers are one after the other, and derive nothing if one of them derives nothing.
func TestSeveralNumbers(t *testing.T) {
	for _, x := range []struct {
		numbers []int
		utf     bool
		want    string // - for nothing
	}{
		{[]int{'a', 'b'}, false, "ab"}, {[]int{'a', 'b'}, true, "ab"}, {[]int{'a', 'A', 'a'}, true, "aAa"},
		{[]int{0xE9, 0x20AC, 0x1F600}, true, "é€😀"}, {[]int{0xC3, 0xA9}, false, "é"}, {[]int{0xC3, 0xA9}, true, "Ã©"},
		{[]int{'a', 256}, false, "-"}, {[]int{256, 'a'}, false, "-"}, {[]int{'a', 256, 'b'}, true, "aĀb"}, {[]int{255, 255}, false, "\xff\xff"},
		{[]int{'a', 0xD800}, true, "-"}, {[]int{0xDFFF, 'a'}, true, "-"}, {[]int{0, 0}, true, "\x00\x00"}, {[]int{0xD83D, 0xDE00}, true, "-"},
		{[]int{greatest, greatest}, true, "\U0010ffff\U0010ffff"}, {[]int{greatest}, false, "-"},
	} {
		for _, s := range []string{"ab", "aAa", "é€😀", "é", "Ã©", "aĀb", "\xff\xff", "\x00\x00", "\U0010ffff\U0010ffff", "", "a", "b", "A", "aa", "AB", "é€", "\xc3", "\xff"} {
			derives(t, nil, nums(x.numbers...), x.utf, s, s == x.want)
		}
	}
	r := regexOf(t, nil, nums(slices.Repeat([]int{0x20AC}, 10000)...), true)
	if regex.Text(r) != "("+strings.Repeat("[226-226][130-130][172-172]", 10000)+")" {
		t.Errorf("many numbers are %s", short(regex.Text(r)))
	}
}

// L1: spans, with utf and without: over the lengths of encodings, and over the surrogates.
func TestSpans(t *testing.T) {
	var texts []string
	for _, n := range edges {
		if utf8.ValidRune(rune(n)) {
			texts = append(texts, string(rune(n)))
		}
	}
	texts = append(texts, noTexts()...)
	texts = append(texts, "ab", "\u07ff\u0800", "\x7f\x80", "é\xa9")
	for i, lo := range edges {
		for _, hi := range edges[i:] {
			with, without := regexOf(t, nil, span(lo, hi), true), regexOf(t, nil, span(lo, hi), false)
			for _, s := range texts {
				c, size := utf8.DecodeRuneInString(s)
				isOne := s != "" && size == len(s) && utf8.ValidString(s)
				if want := isOne && int(c) >= lo && int(c) <= hi; deriv.Match(with, s) != want {
					t.Errorf("%x to %x derives %q: %v", lo, hi, s, !want)
				}
				if want := len(s) == 1 && int(s[0]) >= lo && int(s[0]) <= hi; deriv.Match(without, s) != want {
					t.Errorf("%x to %x without utf derives %q: %v", lo, hi, s, !want)
				}
			}
		}
	}
}

// L1: each number of a span is derived, and no other one.
func TestSpansThroughout(t *testing.T) {
	for _, x := range [][2]int{{0, 0x900}, {0x7F0, 0x1010}, {0xD700, 0xE100}, {0xFFF0, 0x10010}, {0x20AC, 0x20AC}} {
		r := regexOf(t, nil, span(x[0], x[1]), true)
		for n := max(x[0]-70, 0); n < x[1]+70; n++ {
			if utf8.ValidRune(rune(n)) && deriv.Match(r, string(rune(n))) != (n >= x[0] && n <= x[1]) {
				t.Errorf("%x to %x: %x", x[0], x[1], n)
			}
		}
	}
}

// L1: spans and numbers among others.
func TestSpansAmongOthers(t *testing.T) {
	letters := alt(span('a', 'z'), span(0xC0, 0x24F), nums(0x20AC))
	for s, want := range map[string]bool{"a": true, "é": true, "€": true, "ɏ": true, "A": false, "ɐ": false, "\xc3": false, "": false} {
		derives(t, nil, letters, true, s, want)
		derives(t, nil, star(letters), true, s+s, want || s == "")
		derives(t, nil, rep(2, 2, letters), true, s+s, want)
		derives(t, nil, option(letters), true, s, want || s == "")
		derives(t, nil, seq(letters, star(fold("1"))), true, s+"11", want)
	}
	derives(t, nil, star(span(0x80, 0xFF)), false, "é€\xff\x80", true)
	derives(t, nil, star(span(0x80, 0xFF)), true, "é€", false)
	derives(t, nil, star(span(0x80, greatest)), true, "é€\u07ff\uffff😀", true)
	derives(t, nil, rep(3, 3, span(0x80, 0xFF)), false, "€", true)
}

// L1: expressions that derive nothing.
func TestNothing(t *testing.T) {
	g := []api.Rule{rule("n", nums(256)), rule("m", ref("n")), rule("o", span(0xD800, 0xDFFF))}
	x := fold("x")
	nothing := map[bool][]api.Expr{
		false: {nums(256), span(256, 300), span(greatest, greatest), nums('a', 256), ref("n"), ref("m")},
		true:  {nums(0xD800), span(0xD800, 0xDFFF), span(0xDABC, 0xDABC), nums('a', 0xDFFF), ref("o")},
	}
	for utf, l := range nothing {
		for _, n := range l {
			for _, e := range []api.Expr{n, seq(n, x), seq(x, n), seq(x, n, x), alt(n, n), alt(n, seq(n, x)), rep(1, 1, n), rep(2, 2, n), rep(1, -1, n), rep(1, 5, n), rep(200, -1, n), seq(star(x), n), rep(2, 3, alt(n, seq(x, n)))} {
				if r := regexOf(t, g, e, utf); !same(r, api.Re{Kind: api.None}) {
					t.Errorf("%s derives %s", short(e), regex.Text(r))
				}
				derives(t, g, e, utf, "", false)
				derives(t, g, e, utf, "x", false)
			}
			for _, e := range []api.Expr{star(n), option(n), rep(0, 0, n), rep(0, 7, n), alt(n, fold("")), seq(option(n), star(n)), star(seq(x, n))} {
				if r := regexOf(t, g, e, utf); !same(r, api.Re{Kind: api.Empty}) {
					t.Errorf("%s derives %s", short(e), regex.Text(r))
				}
				derives(t, g, e, utf, "", true)
				derives(t, g, e, utf, "x", false)
			}
			for _, e := range []api.Expr{alt(n, x), alt(x, n), seq(x, option(n)), seq(star(n), x), rep(1, 1, alt(n, x, n)), alt(seq(x, n), x)} {
				derives(t, g, e, utf, "", false)
				derives(t, g, e, utf, "x", true)
				derives(t, g, e, utf, "xx", false)
			}
		}
	}
}

// L1: of several rules with one name the first one counts.
func TestFirstRule(t *testing.T) {
	x, y := fold("x"), fold("y")
	g := []api.Rule{rule("b", ref("c")), rule("c", x), rule("b", y), rule("c", y), rule("b", ref("none")), rule("c", ref("c")), rule("d", y)}
	isX := func(s string) bool { return s == "x" }
	only(t, g, ref("b"), "xy", 2, isX)
	only(t, g, ref("c"), "xy", 2, isX)
	only(t, g, seq(ref("d"), ref("b")), "xy", 2, func(s string) bool { return s == "yx" })
	only(t, g[2:4], ref("b"), "xy", 2, func(s string) bool { return s == "y" })
	only(t, g[3:], ref("d"), "xy", 2, func(s string) bool { return s == "y" })
	fails(t, g[3:], ref("b"), api.ErrName)
	fails(t, g[5:], ref("c"), api.ErrLoop)
}

// L1: a name that is reached twice, in several ways, is no loop.
func TestTwice(t *testing.T) {
	g := rules(t, `a = b c | b = d / d d | c = d "y" | d = "x" | e = a a | f = e / a / b / c / d`)
	only(t, g, ref("a"), "xy", 4, func(s string) bool { return s == "xxy" || s == "xxxy" })
	only(t, g, ref("e"), "xy", 8, func(s string) bool {
		return slices.Contains([]string{"xxyxxy", "xxxyxxy", "xxyxxxy", "xxxyxxxy"}, s)
	})
	only(t, g, ref("f"), "xy", 5, func(s string) bool { return slices.Contains([]string{"x", "xx", "xy", "xxy", "xxxy"}, s) })
	only(t, g, seq(ref("d"), ref("d"), ref("d"), ref("c")), "xy", 5, func(s string) bool { return s == "xxxxy" })
}

// L1: names need not be told apart by what they are called: a rule may be called like none that an expression can name.
func TestOtherNames(t *testing.T) {
	g := []api.Rule{rule("A", ref("none")), rule("", ref("none")), rule("the whole", ref("the")), rule("a\x00", ref("b")), rule("a", fold("x")), rule("a-", fold("y")), rule(strings.Repeat("a", 40), fold("z")), rule(strings.Repeat("a", 41), ref("b")), rule("\xff", ref("b"))}
	only(t, g, seq(ref("a"), ref("a-"), ref(strings.Repeat("a", 40))), "xyz", 4, func(s string) bool { return s == "xyz" })
}
