package teller_test

import (
	"fmt"
	"math/rand/v2"
	"slices"
	"strings"
	"testing"

	"reglet/api"
	"reglet/reader"
	"reglet/teller"
)

func sameLine(a, b api.Line) bool {
	return a.Name == b.Name && a.More == b.More && same(a.Expr, b.Expr)
}

// again asks that the text of rules is read as the same rules, and that these have the same text.
func again(t *testing.T, l []api.Line) {
	t.Helper()
	text, e := teller.Tell(l)
	if e != api.OK {
		t.Errorf("%s: error %d", short(l), e)
		return
	}
	got, e := reader.Read(text)
	if e != api.OK || !slices.EqualFunc(got, l, sameLine) {
		t.Errorf("%s: told as %q, read with error %d as %s", short(l), short(text), e, short(got))
	}
	told(t, got, text)
}

// readAgain asks that what a text is read as is told so that it is read as the same.
func readAgain(t *testing.T, text, want string) {
	t.Helper()
	l, e := reader.Read(text)
	if e != api.OK {
		t.Fatalf("%q: error %d", short(text), e)
	}
	told(t, l, want)
	again(t, l)
}

func single(e api.Expr) []api.Line { return []api.Line{{Name: "a", Expr: e}} }

// D4: all expressions of two levels, and some of three.
func TestAgainSmall(t *testing.T) {
	leaves := []api.Expr{ref("b"), ref("x-1"), fold(""), fold("c d"), nums(34), nums(9, 10), span(48, 57)}
	around := func(l []api.Expr) []api.Expr {
		var all []api.Expr
		for _, one := range l {
			for _, count := range [][2]int{{0, 0}, {0, 1}, {1, 1}, {2, 2}, {0, -1}, {1, -1}, {0, 2}, {1, 2}} {
				all = append(all, rep(count[0], count[1], one))
			}
			for _, two := range l {
				all = append(all, alt(one, two), seq(one, two))
			}
		}
		return all
	}
	twoLevels := around(leaves)
	for _, e := range slices.Concat(leaves, twoLevels) {
		again(t, single(e))
		again(t, []api.Line{{Name: "a", More: true, Expr: e}, {Name: "b", Expr: e}})
	}
	for _, e := range around(slices.Concat(leaves[:2], twoLevels)) {
		again(t, single(e))
	}
	for _, e := range around(around(around(leaves[:1]))) {
		again(t, single(e))
	}
}

// D4: rules as they come.
func TestAgainDrawn(t *testing.T) {
	d := newDraw(3)
	for range 3000 {
		again(t, d.rules(d.IntN(4), 1+d.IntN(5)))
	}
}

// D4: what is nested as deep as it may be has no more brackets in one another than may be read.
func TestAgainDeep(t *testing.T) {
	all := makers()
	for _, one := range all {
		again(t, single(deep(ref("x"), 50, one)))
		for _, two := range all {
			again(t, single(deep(ref("x"), 50, one, two)))
			again(t, single(deep(ref("x"), 49, one, two)))
			for _, three := range all {
				again(t, single(deep(fold("x"), 50, one, two, three)))
			}
		}
	}
	d := newDraw(4)
	for range 500 {
		e := d.leaf()
		for range 50 {
			e = all[d.IntN(len(all))](e)
		}
		again(t, single(e))
	}
}

// D4: as many rules, and as long a text, as may be read, and one more.
func TestAgainMany(t *testing.T) {
	again(t, nil)
	rules := slices.Repeat(single(ref("b")), 501)
	again(t, rules[:499])
	again(t, rules[:500])
	told(t, rules, strings.Repeat("a = b\n", 501))
	for _, e := range []api.Expr{fold(strings.Repeat("x", 50000-len("a = \"\"\n"))), alt(slices.Repeat([]api.Expr{ref("b")}, 12000)...), nums(slices.Repeat([]int{256}, 10000)...)} {
		again(t, single(e))
	}
	again(t, single(seq(fold(""), nums(slices.Repeat([]int{100}, 10000)...), fold("x"))))
}

// D4: rules that were read, among them such with a number before brackets.
func TestReadAgain(t *testing.T) {
	for text, want := range map[string]string{
		"2[b]": "2([b])", "2([b])": "2([b])", "*[b]": "*([b])", "1*[b]": "1*([b])", "*2[b]": "*2([b])", "1*2[b]": "1*2([b])", "0[b]": "0([b])", "1[b]": "1([b])", "*1[b]": "[[b]]", "0*1[b]": "[[b]]",
		"2[[b]]": "2([[b]])", "2[2[b]]": "2([2([b])])", "2[b / c]": "2([b / c])", "2[b c]": "2([b c])", "2[2b]": "2([2b])", "2[b] [c]": "2([b]) [c]", "2[b] / 3[c]": "2([b]) / 3([c])", "[2[b]]": "[2([b])]",
		"2(3[b])": "2(3([b]))", "(2[b])": "2([b])", "2(2b)": "2(2b)", "2(b)": "2b", "((b))": "b", "[(b)]": "[b]", "([b])": "[b]", "((b c))": "b c", "(b c) d": "(b c) d", "b (c d)": "b (c d)",
		"(b / c) / d": "(b / c) / d", "b / (c / d)": "b / (c / d)", "b / (c d)": "b / c d", "(b / c) d": "(b / c) d", "(b c) / d": "b c / d", "*1b": "[b]", "0*1b": "[b]", "00*001b": "[b]", "1*1b": "1b",
		"001b": "1b", "0b": "0b", "0*0b": "0b", "*0b": "0b", "0*b": "*b", "00b": "0b", "010b": "10b", "200b": "200b", "B": "b", `"BcD"`: `"bcd"`, `%i"BcD"`: `"bcd"`, `%s""`: `""`,
		`%s"BcD"`: "%x42.63.44", "%d10": "%x0A", "%b11-100": "%x03-04", "%xa.0B.00c": "%x0A.0B.0C", "%xff-0FFFF": "%xFF-FFFF", "%d1114111": "%x10FFFF", "%x0-0": "%x00-00", "[[b]]": "[[b]]",
		`2"b"`: `2"b"`, "2%x41": "2%x41", "2*3%x41-5a": "2*3%x41-5A", "*(*b)": "*(*b)", "*((b))": "*b", "*(b / c)": "*(b / c)", "[b / c]": "[b / c]", "b\n c": "b c", "b\n / ; x\n\tc": "b / c",
	} {
		readAgain(t, "a = "+text, "a = "+want+"\n")
		readAgain(t, "A=/("+text+")", "a =/ "+want+"\n")
		readAgain(t, "a = ["+text+"]\nB = "+text, "a = ["+want+"]\nb = "+want+"\n")
	}
	readAgain(t, "a = b;c", "a = b\n")
	readAgain(t, "", "")
	readAgain(t, ";\n\n ;\n", "")
}

// D4: brackets that make no expression may make a text deeper than its rules; and counts before them make rules deeper than their text.
func TestReadAgainDeep(t *testing.T) {
	readAgain(t, "a = "+strings.Repeat("(", 50)+"b"+strings.Repeat(")", 50), "a = b\n")
	readAgain(t, "a = "+strings.Repeat("[", 50)+"b"+strings.Repeat("]", 50), "a = "+strings.Repeat("[", 50)+"b"+strings.Repeat("]", 50)+"\n")
	readAgain(t, "a = "+strings.Repeat("2[", 25)+"b"+strings.Repeat("]", 25), "a = "+strings.Repeat("2([", 25)+"b"+strings.Repeat("])", 25)+"\n")
	readAgain(t, "a = "+strings.Repeat("2(", 49)+"2b"+strings.Repeat(")", 49), "a = "+strings.Repeat("2(", 49)+"2b"+strings.Repeat(")", 49)+"\n")
	for _, text := range []string{
		strings.Repeat("2[", 26) + "b" + strings.Repeat("]", 26), strings.Repeat("2[", 25) + "2b" + strings.Repeat("]", 25), strings.Repeat("2(", 50) + "2b" + strings.Repeat(")", 50),
		strings.Repeat("[", 50) + "b c" + strings.Repeat("]", 50), strings.Repeat("(b ", 50) + "c / d" + strings.Repeat(")", 50), "%x1" + strings.Repeat(".1", 10000),
	} {
		l, e := reader.Read("a = " + text)
		if e != api.OK {
			t.Errorf("%q: error %d", text, e)
		}
		refused(t, l)
	}
}

// D4: texts as they come, of which what is valid is told and read again.
func TestReadAgainDrawn(t *testing.T) {
	d := newDraw(5)
	for range 5000 {
		text := ""
		for range d.IntN(4) {
			text += d.of("a", "B", "x-1") + d.of(" = ", "=/", "\n =/ ;\n\t") + d.alternatives(1+d.IntN(4)) + d.of("\n", "\r\n", " ; c\n\n")
		}
		l, e := reader.Read(text)
		if e != api.OK {
			t.Fatalf("%q: error %d", text, e)
		}
		again(t, l)
	}
}

// draw makes rules and texts; they are the same in every run.
type draw struct{ *rand.Rand }

func newDraw(n uint64) draw { return draw{rand.New(rand.NewPCG(4, n))} }

func (d draw) of(texts ...string) string { return texts[d.IntN(len(texts))] }

func (d draw) name() string { return d.of("a", "b", "rule", "x-1", "z9", "q--", "x41", "d", "s") }

// rules returns n valid rules.
func (d draw) rules(n, depth int) []api.Line {
	l := make([]api.Line, n)
	for i := range l {
		l[i] = api.Line{Name: d.name(), More: d.IntN(3) == 0, Expr: d.expr(depth)}
	}
	return l
}

// expr returns a valid expression that is so deep at most.
func (d draw) expr(depth int) api.Expr {
	if depth == 0 {
		return d.leaf()
	}
	switch d.IntN(5) {
	case 0:
		return alt(d.kids(depth)...)
	case 1:
		return seq(d.kids(depth)...)
	case 2:
		least := d.IntN(1 << d.IntN(8))
		return rep(least, []int{least, least + d.IntN(70), -1}[d.IntN(3)], d.expr(depth-1))
	case 3:
		return option(d.expr(depth - 1))
	}
	return d.leaf()
}

func (d draw) kids(depth int) []api.Expr {
	kids := make([]api.Expr, 2+d.IntN(3))
	for i := range kids {
		kids[i] = d.expr(depth - 1)
	}
	return kids
}

func (d draw) leaf() api.Expr {
	switch d.IntN(4) {
	case 0:
		return ref(d.name())
	case 1:
		return fold(d.of("", "x", "xyz", "%s", " ", "a;b", "/", "[1]", "~!", "(", "%x41"))
	case 2:
		n := make([]int, 1+d.IntN(4))
		for i := range n {
			n[i] = d.number()
		}
		return nums(n...)
	}
	lo, hi := d.number(), d.number()
	return span(min(lo, hi), max(lo, hi))
}

func (d draw) number() int { return min(d.IntN(1<<d.IntN(22)), greatest) }

// alternatives returns a text of expressions that are so deep at most.
func (d draw) alternatives(depth int) string {
	s := d.concatenation(depth)
	for d.IntN(3) == 0 {
		s += d.of("/", " / ", "\n /\t") + d.concatenation(depth)
	}
	return s
}

func (d draw) concatenation(depth int) string {
	s := d.repetition(depth)
	for d.IntN(3) == 0 {
		s += d.of(" ", "\t ", "; c\n ") + d.repetition(depth)
	}
	return s
}

func (d draw) repetition(depth int) string {
	least := d.IntN(1 << d.IntN(8))
	return d.of("", "", "", fmt.Sprint(least), fmt.Sprintf("%d*", least), fmt.Sprintf("*%d", least), fmt.Sprintf("%d*%d", least, least+d.IntN(70)), "*", "*1", "0") + d.element(depth)
}

func (d draw) element(depth int) string {
	if depth > 0 {
		switch d.IntN(3) {
		case 0:
			return "(" + d.of("", " ") + d.alternatives(depth-1) + d.of("", " ") + ")"
		case 1:
			return "[" + d.of("", " ") + d.alternatives(depth-1) + d.of("", " ") + "]"
		}
	}
	return d.of("b", "C-1", "rule", `""`, `"x Y"`, `%i"Q"`, `%s"Aa"`, `%S""`, "%x41", "%XaF.0", "%d65-90", "%b0-1", "%b1000001.10", "%d1114111", "%x0")
}
