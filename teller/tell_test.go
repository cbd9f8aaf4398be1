package teller_test

import (
	"fmt"
	"slices"
	"strings"
	"sync"
	"testing"

	"reglet/api"
	"reglet/teller"
)

// has asks for the text of an expression.
func has(t *testing.T, e api.Expr, want string) {
	t.Helper()
	got, errno := teller.Tell([]api.Line{{Name: "a", Expr: e}})
	if errno != api.OK || got != "a = "+want+"\n" {
		t.Errorf("%s: %q, error %d, want %q", short(e), short(got), errno, short(want))
	}
}

// D2: the example of the chapter.
func TestExample(t *testing.T) {
	has(t, alt(rep(1, 2, ref("b")), fold("c")), `1*2b / "c"`)
}

// D2: names and strings stand as they are.
func TestTextsOfLeaves(t *testing.T) {
	for _, s := range []string{"b", "a", "z9-", "x--0", strings.Repeat("q", 40)} {
		has(t, ref(s), s)
	}
	for _, s := range []string{"", "b", " ", "  x ", "abcdefghijklmnopqrstuvwxyz", "0123456789", " !#$%&'()*+,-./:;<=>?@[\\]^_`{|}~", "%x41", "%s", "; no comment", "%", "\\", strings.Repeat("x", 3000)} {
		has(t, fold(s), `"`+s+`"`)
	}
	for i := 32; i < 127; i++ {
		if i != '"' && (i < 'A' || i > 'Z') {
			has(t, fold(string(rune(i))), `"`+string(rune(i))+`"`)
		}
	}
}

// D2: numbers in base 16.
func TestTextsOfNumbers(t *testing.T) {
	for n, digits := range map[int]string{
		0: "00", 1: "01", 9: "09", 10: "0A", 11: "0B", 12: "0C", 13: "0D", 14: "0E", 15: "0F", 16: "10", 26: "1A", 31: "1F", 32: "20", 65: "41", 122: "7A", 127: "7F", 128: "80", 160: "A0", 171: "AB",
		205: "CD", 239: "EF", 255: "FF", 256: "100", 257: "101", 4095: "FFF", 4096: "1000", 4660: "1234", 0xABCD: "ABCD", 65535: "FFFF", 65536: "10000", 0xFEDCB: "FEDCB", 1048575: "FFFFF",
		1048576: "100000", greatest - 1: "10FFFE", greatest: "10FFFF",
	} {
		has(t, nums(n), "%x"+digits)
		has(t, nums(n, 1, n), "%x"+digits+".01."+digits)
		has(t, nums(0x4A, n), "%x4A."+digits)
		has(t, span(n, n), "%x"+digits+"-"+digits)
		has(t, span(0, n), "%x00-"+digits)
		has(t, span(n, greatest), "%x"+digits+"-10FFFF")
	}
	for n := range 70000 {
		if text, _ := teller.Tell([]api.Line{{Name: "a", Expr: nums(n)}}); text != fmt.Sprintf("a = %%x%02X\n", n) {
			t.Fatalf("%d: %q", n, text)
		}
	}
	has(t, nums(97, 98, 99, 100), "%x61.62.63.64")
	has(t, nums(1, 2), "%x01.02")
	has(t, span(1, 2), "%x01-02")
	has(t, nums(2, 1), "%x02.01")
	has(t, nums(slices.Repeat([]int{0}, 10000)...), "%x00"+strings.Repeat(".00", 9999))
	has(t, nums(slices.Repeat([]int{greatest}, 10000)...), "%x10FFFF"+strings.Repeat(".10FFFF", 9999))
}

// countText is the chapter's repetition count, written another way.
func countText(least, most int) string {
	switch {
	case most == 0:
		return "0"
	case least == most:
		return fmt.Sprint(least)
	case least == 0 && most == -1:
		return "*"
	case least == 0:
		return fmt.Sprintf("*%d", most)
	case most == -1:
		return fmt.Sprintf("%d*", least)
	}
	return fmt.Sprintf("%d*%d", least, most)
}

// D2: the repetition count.
func TestTextsOfCounts(t *testing.T) {
	b := ref("b")
	has(t, rep(0, 0, b), "0b")
	has(t, rep(0, -1, b), "*b")
	has(t, rep(0, 1, b), "[b]")
	has(t, rep(0, 2, b), "*2b")
	has(t, rep(0, 10, b), "*10b")
	has(t, rep(0, 200, b), "*200b")
	has(t, rep(1, 1, b), "1b")
	has(t, rep(1, -1, b), "1*b")
	has(t, rep(1, 2, b), "1*2b")
	has(t, rep(1, 200, b), "1*200b")
	has(t, rep(2, 2, b), "2b")
	has(t, rep(2, -1, b), "2*b")
	has(t, rep(10, 10, b), "10b")
	has(t, rep(10, 100, b), "10*100b")
	has(t, rep(199, 200, b), "199*200b")
	has(t, rep(200, 200, b), "200b")
	has(t, rep(200, -1, b), "200*b")
	for least := range 201 {
		for most := -1; most <= 200; most++ {
			if most == -1 || most >= least && (least != 0 || most != 1) {
				has(t, rep(least, most, b), countText(least, most)+"b")
				has(t, rep(least, most, alt(b, b)), countText(least, most)+"(b / b)")
			}
		}
	}
}

// D2: each form as a kid of each other: where brackets stand, and where not.
func TestTextsOfKids(t *testing.T) {
	type kid struct {
		e    api.Expr
		text string
		// The text in an Alt, in a Seq, and behind a repetition count.
		inAlt, inSeq, counted string
	}
	b, c := ref("b"), ref("c")
	var kids []kid
	for _, leaf := range []struct {
		e    api.Expr
		text string
	}{{b, "b"}, {fold("c"), `"c"`}, {fold(""), `""`}, {nums(9), "%x09"}, {nums(9, 10), "%x09.0A"}, {span(9, 10), "%x09-0A"}} {
		kids = append(kids, kid{leaf.e, leaf.text, leaf.text, leaf.text, leaf.text})
	}
	kids = append(kids,
		kid{alt(b, c), "b / c", "(b / c)", "(b / c)", "(b / c)"},
		kid{seq(b, c), "b c", "b c", "(b c)", "(b c)"},
		kid{option(b), "[b]", "[b]", "[b]", "([b])"},
		kid{option(alt(b, c)), "[b / c]", "[b / c]", "[b / c]", "([b / c])"},
		kid{option(seq(b, c)), "[b c]", "[b c]", "[b c]", "([b c])"},
		kid{option(option(b)), "[[b]]", "[[b]]", "[[b]]", "([[b]])"},
		kid{option(rep(3, 3, b)), "[3b]", "[3b]", "[3b]", "([3b])"},
	)
	for _, count := range []struct {
		least, most int
		text        string
	}{{0, 0, "0"}, {2, 2, "2"}, {0, -1, "*"}, {1, -1, "1*"}, {0, 2, "*2"}, {1, 2, "1*2"}} {
		kids = append(kids,
			kid{rep(count.least, count.most, b), count.text + "b", count.text + "b", count.text + "b", "(" + count.text + "b)"},
			kid{rep(count.least, count.most, seq(b, c)), count.text + "(b c)", count.text + "(b c)", count.text + "(b c)", "(" + count.text + "(b c))"})
	}
	for _, one := range kids {
		has(t, one.e, one.text)
		has(t, option(one.e), "["+one.text+"]")
		has(t, option(option(one.e)), "[["+one.text+"]]")
		for _, count := range []struct {
			least, most int
			text        string
		}{{0, 0, "0"}, {1, 1, "1"}, {2, 2, "2"}, {0, -1, "*"}, {1, -1, "1*"}, {0, 2, "*2"}, {1, 2, "1*2"}} {
			has(t, rep(count.least, count.most, one.e), count.text+one.counted)
		}
		for _, two := range kids {
			has(t, alt(one.e, two.e), one.inAlt+" / "+two.inAlt)
			has(t, seq(one.e, two.e), one.inSeq+" "+two.inSeq)
			has(t, alt(one.e, b, two.e, one.e), one.inAlt+" / b / "+two.inAlt+" / "+one.inAlt)
			has(t, seq(one.e, b, two.e, one.e), one.inSeq+" b "+two.inSeq+" "+one.inSeq)
			has(t, alt(seq(one.e, c), two.e), one.inSeq+" c / "+two.inAlt)
			has(t, seq(alt(one.e, c), two.e), "("+one.inAlt+" / c) "+two.inSeq)
			has(t, rep(2, 2, alt(one.e, two.e)), "2("+one.inAlt+" / "+two.inAlt+")")
			has(t, rep(0, -1, seq(one.e, two.e)), "*("+one.inSeq+" "+two.inSeq+")")
			has(t, option(alt(one.e, two.e)), "["+one.inAlt+" / "+two.inAlt+"]")
			has(t, option(seq(one.e, two.e)), "["+one.inSeq+" "+two.inSeq+"]")
		}
	}
}

// D2: deep texts.
func TestDeepTexts(t *testing.T) {
	all := makers()
	for i, text := range map[int][2]string{
		0: {"(", " / b)"}, 1: {"(b / ", ")"}, 2: {"(", " b)"}, 3: {"(b b ", " b)"}, 4: {"2*3(", ")"}, 5: {"0(", ")"}, 6: {"[", "]"},
	} {
		want := strings.Repeat(text[0], 50) + "x" + strings.Repeat(text[1], 50)
		switch {
		case i < 4:
			want = want[1 : len(want)-1]
		case i < 6:
			want = strings.ReplaceAll(want, "(x)", "x")
		}
		has(t, deep(ref("x"), 50, all[i]), want)
	}
}

// D2: lists of many.
func TestLongTexts(t *testing.T) {
	many := slices.Repeat([]api.Expr{ref("b")}, 20000)
	has(t, alt(many...), strings.Repeat("b / ", 19999)+"b")
	has(t, seq(many...), strings.Repeat("b ", 19999)+"b")
	has(t, seq(ref("b"), ref("c"), ref("d"), ref("e")), "b c d e")
	has(t, alt(ref("e"), ref("d"), ref("c"), ref("b")), "e / d / c / b")
}

// told asks for the text of rules.
func told(t *testing.T, l []api.Line, want string) {
	t.Helper()
	if got, e := teller.Tell(l); e != api.OK || got != want {
		t.Errorf("%s: %q, error %d, want %q", short(l), short(got), e, short(want))
	}
}

// refused asks that nothing is told of rules.
func refused(t *testing.T, l []api.Line) {
	t.Helper()
	if got, e := teller.Tell(l); e != api.ErrArg || got != "" {
		t.Errorf("%s: %q, error %d", short(l), short(got), e)
	}
}

// D3: rules, in order, each with its sign.
func TestTell(t *testing.T) {
	told(t, nil, "")
	told(t, []api.Line{}, "")
	told(t, []api.Line{{Name: "a", Expr: ref("b")}}, "a = b\n")
	told(t, []api.Line{{Name: "a", More: true, Expr: ref("b")}}, "a =/ b\n")
	told(t, []api.Line{{Name: "z-0", Expr: alt(ref("b"), fold("c"))}, {Name: "b", More: true, Expr: seq(ref("b"), ref("z-0"))}, {Name: "a", Expr: nums(10)}}, "z-0 = b / \"c\"\nb =/ b z-0\na = %x0A\n")
	// The same name again, names that no rule has, and More without a rule ahead are nothing wrong here.
	told(t, []api.Line{{Name: "a", More: true, Expr: ref("a")}, {Name: "a", Expr: ref("a")}, {Name: "a", Expr: ref("none")}}, "a =/ a\na = a\na = none\n")
	for _, e := range forms() {
		for _, name := range []string{"a", "b-1", strings.Repeat("n", 40)} {
			plain, _ := teller.Tell([]api.Line{{Name: name, Expr: e}})
			told(t, []api.Line{{Name: name, More: true, Expr: e}}, strings.Replace(plain, " = ", " =/ ", 1))
		}
	}
}

// D3: how many rules there are, and how long their text is, doesn't matter.
func TestManyRules(t *testing.T) {
	for _, n := range []int{2, 10, 499, 500, 501, 1000, 50000} {
		told(t, slices.Repeat([]api.Line{{Name: "a", Expr: ref("b")}}, n), strings.Repeat("a = b\n", n))
	}
	long := strings.Repeat("x", 60000)
	told(t, []api.Line{{Name: "a", Expr: fold(long)}, {Name: "b", Expr: fold(long)}}, "a = \""+long+"\"\nb = \""+long+"\"\n")
}

// D3: of a wrong rule, and of the right ones about it, nothing is told.
func TestWrongRules(t *testing.T) {
	right := api.Line{Name: "a", Expr: alt(ref("b"), fold("c"))}
	for _, wrong := range []api.Line{
		{}, {Name: "a"}, {Expr: ref("b")}, {Name: "A", Expr: ref("b")}, {Name: "", More: true, Expr: ref("b")}, {Name: "1", Expr: ref("b")}, {Name: strings.Repeat("a", 41), Expr: ref("b")}, {Name: "a b", Expr: ref("b")},
		{Name: "a\n", Expr: ref("b")}, {Name: "a", Expr: ref("B")}, {Name: "a", Expr: ref("")}, {Name: "a", Expr: alt(ref("b"))}, {Name: "a", Expr: seq(ref("b"), fold("\""))}, {Name: "a", Expr: option(api.Expr{})},
		{Name: "a", More: true, Expr: rep(2, 1, ref("b"))}, {Name: "a", Expr: nums()}, {Name: "a", Expr: span(2, 1)}, {Name: "a", Expr: deep(ref("b"), 51, option)}, {Name: "A", Expr: api.Expr{Kind: 8}},
	} {
		refused(t, []api.Line{wrong})
		refused(t, []api.Line{wrong, wrong})
		for n := 1; n < 5; n++ {
			for at := range n + 1 {
				refused(t, slices.Insert(slices.Repeat([]api.Line{right}, n), at, wrong))
			}
		}
		refused(t, append(slices.Repeat([]api.Line{right}, 600), wrong))
	}
}

// copied returns an expression in memory of its own, with one more item behind each list.
func copied(e api.Expr) api.Expr {
	e.N = append(slices.Clone(e.N), -7)[:len(e.N)]
	kids := make([]api.Expr, 0, len(e.Kids)+1)
	for _, k := range e.Kids {
		kids = append(kids, copied(k))
	}
	e.Kids = append(kids, ref("behind"))[:len(e.Kids)]
	return e
}

// unchanged holds an expression against a copy, also behind the ends of its lists.
func unchanged(a, b api.Expr) bool {
	behind := a.Kids[:len(a.Kids)+1][len(a.Kids)]
	return same(a, b) && a.N[:len(a.N)+1][len(a.N)] == -7 && behind.Kind == 4 && behind.Text == "behind" &&
		slices.EqualFunc(a.Kids, b.Kids, unchanged)
}

// same holds two expressions against each other, for which a list that is nil is an empty list.
func same(a, b api.Expr) bool {
	return a.Kind == b.Kind && a.Text == b.Text && a.Min == b.Min && a.Max == b.Max &&
		slices.Equal(a.N, b.N) && slices.EqualFunc(a.Kids, b.Kids, same)
}

// R3: what is handed in stays as it is.
func TestMemory(t *testing.T) {
	d := newDraw(1)
	for i := range 300 {
		original := d.expr(4)
		if i%3 == 0 {
			original.Min++
		}
		e := copied(original)
		l := []api.Line{{Name: "a", Expr: e}, {Name: "b", More: true, Expr: e}, {Name: "behind", Expr: e}}
		teller.Right(e)
		teller.Tell(l[:2])
		if !unchanged(e, original) || l[0].Name != "a" || l[0].More || !l[1].More || l[1].Name != "b" || l[2].Name != "behind" || !unchanged(l[0].Expr, original) {
			t.Fatalf("%s was changed to %s", short(original), short(l))
		}
	}
}

// R4: a result hangs on nothing but the rules: not on earlier calls, nor on calls at the same time.
func TestNoState(t *testing.T) {
	d := newDraw(2)
	lists := [][]api.Line{nil, {{}}, {{Name: "a", Expr: deep(ref("b"), 51, option)}}}
	for range 8 {
		lists = append(lists, d.rules(4, 3))
	}
	wanted := make([]string, len(lists))
	for i, l := range lists {
		wanted[i], _ = teller.Tell(l)
	}
	var group sync.WaitGroup
	for i, l := range lists {
		group.Go(func() {
			for range 50 {
				got, e := teller.Tell(l)
				if got != wanted[i] || (e == api.OK) != (i != 1 && i != 2) {
					t.Errorf("%s: %q, error %d", short(l), short(got), e)
				}
				if l != nil && teller.Right(l[0].Expr) != (e == api.OK) {
					t.Errorf("%s: Right is not as ahead", short(l))
				}
			}
		})
	}
	group.Wait()
}
