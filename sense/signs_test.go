package sense_test

import (
	"strings"
	"testing"

	"reglet/api"
	"reglet/sense"
)

// F2: a Fold, of which capital and small letters are equal.
func TestFold(t *testing.T) {
	for _, s := range []string{"ab", "aB", "Ab", "AB"} {
		alone(t, fold("ab"), s, 2)
		alone(t, fold("ab"), s+"c", 2)
		alone(t, fold("ab"), s+s, 2)
		alone(t, fold("ab"), s+"\xff\x00", 2)
		alone(t, fold("abc"), s)
		alone(t, fold("ab"), "x"+s)
	}
	for _, s := range []string{"", "a", "A", "b", "ba", "ac", "bb", "a b", " ab", "aab", "\x00ab", "a\x00b"} {
		alone(t, fold("ab"), s)
	}
	alone(t, fold("1-x"), "1-X", 3)
	alone(t, fold("a\t"), "A\t.", 2)
}

// F2: each sign that a Fold may have derives itself, and a letter also its capital one; no other byte.
func TestFoldSigns(t *testing.T) {
	for c := 32; c <= 126; c++ {
		if c == '"' || 'A' <= c && c <= 'Z' {
			continue
		}
		e := fold(string(rune(c)))
		for b := range 256 {
			if b == c || 'a' <= c && c <= 'z' && b == c-'a'+'A' {
				alone(t, e, string([]byte{byte(b)}), 1)
				alone(t, e, string([]byte{byte(b), byte(b)}), 1)
				alone(t, fold("q"+e.Text+"z"), string([]byte{'Q', byte(b), 'z'}), 3)
			} else {
				alone(t, e, string([]byte{byte(b)}))
				alone(t, fold("q"+e.Text+"z"), string([]byte{'Q', byte(b), 'z'}))
			}
		}
	}
	// Letters beyond a to z are equal to none of them: the sign of Kelvin, the long s, the full-width a.
	for _, s := range []string{"\u212a", "\u017f", "\uff41", "\u0130", "\u0131"} {
		for _, letter := range []string{"k", "s", "a", "i"} {
			alone(t, fold(letter), s)
		}
	}
}

// F2: a Fold of the empty text.
func TestEmptyFold(t *testing.T) {
	for _, s := range []string{"", "x", "xx", "\x00", "\xff", "é"} {
		alone(t, fold(""), s, 0)
		alone(t, seq(fold(""), fold("")), s, 0)
	}
}

// F2: Nums, of bytes and of characters.
func TestNums(t *testing.T) {
	for _, s := range []string{"A", "AA", "AB", "Aé", "A\xff"} {
		alone(t, nums(65), s, 1)
	}
	for _, s := range []string{"", "a", "B", "aA", "\xc1"} {
		alone(t, nums(65), s)
	}
	alone(t, nums(65, 66, 67), "ABC", 3)
	alone(t, nums(65, 66, 67), "ABCD", 3)
	for _, s := range []string{"", "A", "AB", "ABc", "abc", "BAC", "ACB", "AB\x00C", "BC"} {
		alone(t, nums(65, 66, 67), s)
	}
	alone(t, nums(0), "\x00", 1)
	alone(t, nums(0), "")
	alone(t, nums(0, 0), "\x00\x00\x00", 2)
	alone(t, nums(0, 0), "\x00")
	alone(t, nums(127), "\x7f", 1)
	alone(t, nums(65, 65), "AAA", 2)
}

// F2: Nums above 127, whose bytes hang on utf.
func TestNumsWithUtf(t *testing.T) {
	for _, n := range []int{128, 233, 255, 256, 2047, 2048, 55295, 57344, 65533, 65535, 65536, greatest} {
		g, s := []api.Rule{rule("a", nums(n))}, string(rune(n))
		ends(t, g, "a", s, true, len(s))
		ends(t, g, "a", s+s+"x", true, len(s))
		ends(t, g, "a", s[:len(s)-1], true)
		ends(t, g, "a", s[1:], true)
		ends(t, g, "a", "x"+s, true)
		ends(t, g, "a", s[:1]+s, true)
		ends(t, g, "a", "", true)
		ends(t, g, "a", s, false)
		ends(t, g, "a", "", false)
		one := string([]byte{byte(n)})
		ends(t, g, "a", one, true)
		if n < 256 {
			ends(t, g, "a", one, false, 1)
			ends(t, g, "a", one+one, false, 1)
		} else {
			ends(t, g, "a", one, false)
		}
	}
	g := []api.Rule{rule("a", nums(233, 65, 0x20AC))}
	ends(t, g, "a", "éA€x", true, 6)
	ends(t, g, "a", "éA€", false)
	ends(t, g, "a", "\xe9A\xac", false)
	g = []api.Rule{rule("a", nums(195, 169))}
	ends(t, g, "a", "é", false, 2)
	ends(t, g, "a", "é", true)
	ends(t, g, "a", "Ã©", true, 4)
}

// F2: Nums of which a number has no bytes derive nothing.
func TestNumsWithoutBytes(t *testing.T) {
	for _, n := range []int{0xD800, 0xDBFF, 0xDC00, 0xDFFF} {
		g := []api.Rule{rule("a", nums(n)), rule("b", nums(65, n)), rule("c", nums(n, 65)), rule("d", nums(65, n, 65))}
		wtf := string([]byte{0xED, byte(0x80 | n>>6&0x3F), byte(0x80 | n&0x3F)})
		for _, name := range []string{"a", "b", "c", "d"} {
			for _, s := range []string{"", "A", "AA", "AAA", wtf, "A" + wtf, wtf + "A", "A" + wtf + "A", "\ufffd", "A\ufffd", "A\ufffdA", "\ufffdA"} {
				both(t, g, name, s)
			}
		}
	}
	for _, n := range []int{256, 257, 256 + 65, 512 + 65, 65536 + 65, greatest} {
		for _, e := range []api.Expr{nums(n), nums(65, n), nums(n, 65), nums(65, n, 65)} {
			for _, s := range []string{"", "A", "AA", "AAA", string([]byte{byte(n)}), string([]byte{'A', byte(n), 'A'})} {
				ends(t, []api.Rule{rule("a", e)}, "a", s, false)
			}
		}
	}
}

// F2: many numbers.
func TestManyNums(t *testing.T) {
	n, s := make([]int, 10000), strings.Repeat("éx€z", 2500)
	for i := range n {
		n[i] = []int{0xE9, 'x', 0x20AC, 'z'}[i%4]
	}
	g := []api.Rule{rule("a", nums(n...)), rule("b", nums(n[:9999]...))}
	ends(t, g, "a", s, true, len(s))
	ends(t, g, "a", s+s, true, len(s))
	ends(t, g, "a", s[:len(s)-1], true)
	ends(t, g, "a", s[:len(s)-1]+"y", true)
	ends(t, g, "b", s, true, len(s)-1)
	ends(t, g, "a", s, false)
}

// spans asks which numbers a Span derives, among those about its borders and about the borders of lengths.
func spans(t *testing.T, lo, hi int) {
	t.Helper()
	g := []api.Rule{rule("a", span(lo, hi)), rule("b", seq(span(lo, hi), fold("x")))}
	for _, about := range []int{lo, hi, (lo + hi) / 2, 0, 65, 128, 256, 0x800, 0xD800, 0xE000, 0xFFFD, 0x10000, greatest} {
		for n := about - 2; n <= about+2; n++ {
			for _, utf := range []bool{true, false} {
				l := sense.Bytes(n, utf)
				s := make([]byte, len(l))
				for i, b := range l {
					s[i] = byte(b)
				}
				if len(s) == 0 {
					continue
				}
				text := string(s)
				if lo <= n && n <= hi {
					ends(t, g, "a", text, utf, len(text))
					ends(t, g, "a", text+text, utf, len(text))
					ends(t, g, "a", text+"\x80", utf, len(text))
					ends(t, g, "b", text+"xx", utf, len(text)+1)
				} else {
					ends(t, g, "a", text, utf)
					ends(t, g, "b", text+"xx", utf)
				}
				if utf && n > 127 {
					ends(t, g, "a", text[:len(text)-1], true)
					ends(t, g, "a", text[1:], true)
				}
			}
		}
	}
	both(t, g, "a", "")
}

// F2: a Span, also across the borders of lengths, and across numbers that have no bytes.
func TestSpan(t *testing.T) {
	for _, x := range [][2]int{
		{0, 0}, {65, 65}, {65, 90}, {0, 127}, {127, 128}, {126, 129}, {128, 128}, {128, 255}, {0, 255}, {255, 256}, {250, 300}, {256, 256}, {300, 400}, {0, greatest},
		{0x7FF, 0x800}, {0xD7FF, 0xE000}, {0xD700, 0xE100}, {0xD800, 0xDFFF}, {0xD7FF, 0xD800}, {0xDFFF, 0xE000}, {0xFFFD, 0xFFFD}, {0xFFFC, 0xFFFE}, {0xFFFF, 0x10000}, {0x10000, greatest}, {greatest, greatest},
	} {
		spans(t, x[0], x[1])
	}
}

// F2: each byte by itself, for Spans of bytes.
func TestSpanOfBytes(t *testing.T) {
	for _, x := range [][2]int{{0, 255}, {0, 127}, {128, 255}, {65, 200}, {200, 1000}, {256, 1000}} {
		g := []api.Rule{rule("a", span(x[0], x[1])), rule("b", seq(span(x[0], x[1]), span(x[0], x[1])))}
		for b := range 256 {
			s := string([]byte{byte(b)})
			with, without := x[0] <= b && b <= min(x[1], 127), x[0] <= b && b <= x[1]
			for _, more := range []string{"", "A", "\x00", "\xff"} {
				if without {
					ends(t, g, "a", s+more, false, 1)
				} else {
					ends(t, g, "a", s+more, false)
				}
				if with {
					ends(t, g, "a", s+more, true, 1)
				} else {
					ends(t, g, "a", s+more, true)
				}
			}
			if without {
				ends(t, g, "b", s+s+s, false, 2)
			} else {
				ends(t, g, "b", s+s+s, false)
			}
		}
	}
}

// F2: with utf, what is no UTF-8 is derived by no Span: bytes too few or too many, too long forms, surrogates, numbers that are too great.
func TestSpanOfNoUtf(t *testing.T) {
	g := []api.Rule{rule("a", span(0, greatest)), rule("b", span(128, greatest)), rule("c", span(0xFFFD, 0xFFFD)), rule("d", nums(0xFFFD)), rule("e", span(0xD800, 0xDFFF))}
	for _, s := range []string{
		"\x80", "\xbf", "\xc3", "\xc3A", "\xc3\xc3", "\xc0\x80", "\xc1\xbf", "\xe2\x82", "\xe2\x82A", "\xe0\x80\x80", "\xe0\x9f\xbf", "\xed\xa0\x80", "\xed\xbf\xbf", "\xef\xbf",
		"\xf0\x80\x80\x80", "\xf0\x8f\xbf\xbf", "\xf0\x90\x80", "\xf4\x90\x80\x80", "\xf5\x80\x80\x80", "\xf8\x88\x80\x80\x80", "\xfe", "\xff", "\xff\xff",
	} {
		for _, name := range []string{"a", "b", "c", "d", "e"} {
			ends(t, g, name, s, true)
			ends(t, g, name, s+"\ufffd", true)
		}
	}
	for _, name := range []string{"a", "b", "c", "d"} {
		ends(t, g, name, "\ufffd", true, 3)
		ends(t, g, name, "\ufffd\xff", true, 3)
	}
	ends(t, g, "e", "\ufffd", true)
}
