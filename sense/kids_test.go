package sense_test

import (
	"math"
	"strings"
	"testing"

	"reglet/api"
)

// F2: an Alt, also of what derives prefixes of one another.
func TestAlt(t *testing.T) {
	told(t, `a = "x" / "y"`, "x", 1)
	told(t, `a = "x" / "y"`, "y", 1)
	told(t, `a = "x" / "y"`, "z")
	told(t, `a = "x" / "y"`, "")
	told(t, `a = "x" / "xx" / "xxx"`, "xxxx", 1, 2, 3)
	told(t, `a = "xxx" / "xx" / "x"`, "xxxx", 1, 2, 3)
	told(t, `a = "xx" / "x" / "xxx"`, "XX", 1, 2)
	told(t, `a = "xx" / "xx" / %x78.78`, "xx", 2)
	told(t, `a = "" / "x"`, "", 0)
	told(t, `a = "x" / ""`, "x", 0, 1)
	told(t, `a = "x" / ("y" / ("z" / "w"))`, "w", 1)
	told(t, `a = "x" / none`, "x", 1)
	told(t, `a = none / "x"`, "x", 1)
	told(t, `a = "x" "y" / "x" "z" / "x"`, "xz", 1, 2)
}

// F2: a Seq, also one in which kids have several ends.
func TestSeq(t *testing.T) {
	told(t, `a = "x" "y" "z"`, "xyz", 3)
	told(t, `a = "x" "y" "z"`, "xyzx", 3)
	for _, s := range []string{"", "x", "xy", "xz", "yxz", "xzy", "xxyz", "yz", "z"} {
		told(t, `a = "x" "y" "z"`, s)
	}
	told(t, `a = ("x" / "xy") "y"`, "xyy", 2, 3)
	told(t, `a = ("x" / "xy" / "xyy") ("y" / "yy" / "z")`, "xyyz", 2, 3, 4)
	told(t, `a = ("xy" / "x") ("" / "y") ("y" / "")`, "xyyyy", 1, 2, 3, 4)
	told(t, `a = *"x" *"x" *"x"`, "xxxx", from(0, 4)...)
	told(t, `a = *"x" "x" *"x"`, "xxxx", from(1, 4)...)
	told(t, `a = *"x" "x" "y"`, "xxxy", 4)
	told(t, `a = "" ""`, "x", 0)
	told(t, `a = "" "x" ""`, "x", 1)
	told(t, `a = "x" none`, "xx")
	told(t, `a = none "x"`, "xx")
	told(t, `a = ["x"] ["y"] ["x"]`, "xyx", 0, 1, 2, 3)
	told(t, `a = ["x"] ["y"] ["x"]`, "xxy", 0, 1, 2)
}

// F2: a Rep, of what has one length.
func TestRep(t *testing.T) {
	x := fold("x")
	for least := range 6 {
		for most := -1; most < 7; most++ {
			if most >= 0 && most < least {
				continue
			}
			for n := range 9 {
				s, last := strings.Repeat("x", n), n
				if most >= 0 {
					last = min(n, most)
				}
				alone(t, rep(least, most, x), s, from(least, last)...)
				alone(t, rep(least, most, x), s+"yx", from(least, last)...)
				alone(t, rep(least, most, option(x)), s, from(0, last)...)
				alone(t, rep(least, most, option(x)), s+"yx", from(0, last)...)
				alone(t, seq(rep(least, most, x), fold("y")), s+"y", over(n, n >= least && n <= last)...)
			}
		}
	}
}

// over returns the length of n signs and one more, if that is wanted.
func over(n int, wanted bool) []int {
	if wanted {
		return []int{n + 1}
	}
	return nil
}

// F2: a Rep of 0 times, and of what derives the empty text, or nothing.
func TestRepOfEmpty(t *testing.T) {
	for _, s := range []string{"", "x", "xx", "y", "\xff"} {
		for _, kid := range []api.Expr{fold("x"), fold(""), ref("a"), ref("none"), rep(0, -1, fold("x")), {Kind: 9}} {
			alone(t, rep(0, 0, kid), s, 0)
		}
		for _, count := range [][2]int{{0, 1}, {0, -1}, {1, 1}, {1, -1}, {2, 2}, {7, 7}, {200, 200}, {200, -1}, {3, 200}} {
			alone(t, rep(count[0], count[1], fold("")), s, 0)
			alone(t, rep(count[0], count[1], option(fold(""))), s, 0)
			alone(t, rep(count[0], count[1], rep(0, -1, fold(""))), s, 0)
			if count[0] == 0 {
				alone(t, rep(0, count[1], ref("none")), s, 0)
				alone(t, rep(0, count[1], ref("a")), s, 0)
			} else {
				alone(t, rep(count[0], count[1], ref("none")), s)
				alone(t, rep(count[0], count[1], ref("a")), s)
			}
		}
	}
	told(t, `a = *("" / "x")`, "xx", 0, 1, 2)
	told(t, `a = 2("" / "x")`, "xxx", 0, 1, 2)
	told(t, `a = 2*2("x" / "")`, "xxx", 0, 1, 2)
	told(t, `a = 5*("xx" / "")`, "xxxxx", 0, 2, 4)
	told(t, `a = 3*4("xx" / "")`, strings.Repeat("x", 12), 0, 2, 4, 6, 8)
	told(t, `a = *(*(*"x"))`, "xxx", 0, 1, 2, 3)
	told(t, `a = 2(*(3"x"))`, "xxxxxxx", 0, 3, 6)
	told(t, `a = "y" 2*4b "z" | b = ["x"]`, "yxxxz", 5)
	told(t, `a = "y" 2*4b "z" | b = ["x"]`, "yxxxxz", 6)
	told(t, `a = "y" 2*4b "z" | b = ["x"]`, "yxxxxxz")
	told(t, `a = "y" 2*4b "z" | b = ["x"]`, "yz", 2)
}

// F2: a Rep of what has several lengths, so that one end is reached by several counts.
func TestRepOfSeveral(t *testing.T) {
	told(t, `a = 2("x" / "xx")`, "xxxxx", 2, 3, 4)
	told(t, `a = 2*3("x" / "xxx")`, strings.Repeat("x", 12), 2, 3, 4, 5, 6, 7, 9)
	told(t, `a = *2("xx" / "xxx")`, "xxxxxxx", 0, 2, 3, 4, 5, 6)
	told(t, `a = 2*("xx" / "xxxxx")`, strings.Repeat("x", 12), 4, 6, 7, 8, 9, 10, 11, 12)
	told(t, `a = 3("x" / "xxxx")`, strings.Repeat("x", 12), 3, 6, 9, 12)
	told(t, `a = *2("x" / "xxxx" / "xxxxx")`, strings.Repeat("x", 12), 0, 1, 2, 4, 5, 6, 8, 9, 10)
	told(t, `a = 1*2("x" "y" / "x" / "y" "x")`, "xyxy", 1, 2, 3, 4)
	told(t, `a = 2*2(2*3"x") "y"`, "xxxxxy", 6)
	told(t, `a = 2*2(2*3"x") "y"`, "xxxy")
	told(t, `a = 2*2(2*3"x") "y"`, "xxxxxxxy")
}

// F2: a Rep with a Min above what the text can hold.
func TestRepAboveText(t *testing.T) {
	for _, most := range []int{-1, 200} {
		for n := range 200 {
			alone(t, rep(200, most, fold("x")), strings.Repeat("x", n))
			alone(t, rep(200, most, fold("xxx")), strings.Repeat("x", n))
		}
		alone(t, rep(200, most, fold("x")), strings.Repeat("x", 200), 200)
		alone(t, rep(200, most, fold("xxx")), strings.Repeat("x", 600), 600)
	}
	alone(t, rep(200, -1, fold("x")), strings.Repeat("x", 300), from(200, 300)...)
	alone(t, rep(200, 200, fold("x")), strings.Repeat("x", 300), 200)
	alone(t, rep(3, 200, fold("x")), strings.Repeat("x", 300), from(3, 200)...)
	alone(t, rep(200, 200, rep(200, 200, fold("x"))), strings.Repeat("x", 40001), 40000)
	alone(t, rep(200, 200, rep(200, 200, fold("x"))), strings.Repeat("x", 39999))
}

// F2: any Max below 0 is none.
func TestRepWithoutMax(t *testing.T) {
	for _, most := range []int{-1, -2, -7, -200, math.MinInt, math.MinInt + 1} {
		alone(t, rep(0, most, fold("x")), "xxxy", 0, 1, 2, 3)
		alone(t, rep(2, most, fold("x")), "xxxy", 2, 3)
		alone(t, rep(4, most, fold("x")), "xxxy")
		alone(t, rep(4, most, option(fold("x"))), "xxxy", 0, 1, 2, 3)
	}
}

// F2: an expression of another kind derives nothing, whatever is in it.
func TestOtherKinds(t *testing.T) {
	x := fold("x")
	for _, kind := range []int{0, -1, 8, 9, 10, 100, math.MinInt, math.MaxInt, 1 << 32, 1<<32 + 5, 256 + 5} {
		other := api.Expr{Kind: kind, Text: "x", N: []int{120}, Min: 0, Max: 1, Kids: []api.Expr{x}}
		for _, e := range []api.Expr{{Kind: kind}, other} {
			for _, s := range []string{"", "x", "xx"} {
				alone(t, e, s)
				alone(t, seq(x, e), s)
				alone(t, seq(e, x), s)
				alone(t, rep(1, -1, e), s)
				alone(t, rep(0, -1, e), s, 0)
			}
			alone(t, alt(e, x), "xx", 1)
			alone(t, alt(x, e), "xx", 1)
			alone(t, seq(x, option(e), x), "xx", 2)
		}
	}
}

// F2: kinds in one another.
func TestMixed(t *testing.T) {
	told(t, `a = 1*("x" / "y" ["z"]) "w"`, "xyzyxw", 6)
	told(t, `a = 1*("x" / "y" ["z"]) "w"`, "xzw")
	told(t, `a = "-" ("0" / %x31-39 *%x30-39) ["." 1*%x30-39]`, "-120.507x", 2, 3, 4, 6, 7, 8)
	told(t, `a = "-" ("0" / %x31-39 *%x30-39) ["." 1*%x30-39]`, "-0120.5", 2)
	told(t, `a = %x22 *(%x20-21 / %x23-5B / %x5D-7E / %x5C %x22) %x22`, `"x\"y"z"`, 6)
	told(t, `a = %x22 *(%x20-21 / %x23-5B / %x5D-7E / %x5C %x22) %x22`, `"x\"y\"`)
	told(t, `a = [b] *(","  [b]) | b = 1*%x61-7A`, "ab,,c,", 0, 1, 2, 3, 4, 5, 6)
}

// F3: of bytes above 127.
func TestHighBytes(t *testing.T) {
	g := rules(t, `a = *%x80-FF | b = *%x80-10FFFF | c = %xE9 / %xC3.A9 | d = *octet | octet = %x00-FF | e = *(%xE9 / "x")`)
	ends(t, g, "a", "é\xff€", false, from(0, 6)...)
	ends(t, g, "a", "éÿ€", true, 0, 2, 4)
	ends(t, g, "b", "éÿ€\xff", true, 0, 2, 4, 7)
	ends(t, g, "b", "é\xffé", true, 0, 2)
	ends(t, g, "b", "é\xffx", false, 0, 1, 2, 3)
	ends(t, g, "c", "é", true, 2)
	ends(t, g, "c", "é", false, 2)
	ends(t, g, "c", "\xe9", true)
	ends(t, g, "c", "\xe9", false, 1)
	ends(t, g, "c", "Ã©", true, 4)
	ends(t, g, "c", "Ã©", false)
	ends(t, g, "d", "\x00\x7f\x80\xffx", false, from(0, 5)...)
	ends(t, g, "d", "\x00\x7f\x80\xffx", true, 0, 1, 2)
	ends(t, g, "d", "é€", true, 0, 2)
	ends(t, g, "e", "xéxéy", true, 0, 1, 3, 4, 6)
	ends(t, g, "e", "x\xe9x\xe9y", false, 0, 1, 2, 3, 4)
	ends(t, g, "e", "xéx", false, 0, 1)
}
