package reader_test

import (
	"fmt"
	"math/rand/v2"
	"slices"
	"strings"
	"sync"
	"testing"

	"reglet/api"
	"reglet/reader"
)

// layout makes rules, and writes them with white space, signs and brackets as they come; it comes the same in every run.
type layout struct{ *rand.Rand }

func (l layout) of(texts ...string) string { return texts[l.IntN(len(texts))] }

// rules returns n rules, of which the expressions are so deep at most.
func (l layout) rules(n, depth int) []api.Line {
	r := make([]api.Line, n)
	for i := range r {
		r[i] = api.Line{Name: l.name(), More: l.IntN(3) == 0, Expr: l.expr(depth)}
	}
	return r
}

func (l layout) name() string {
	return l.of("a", "b", "rule", "x-1", "z9", "q--", "d10", "i", "s", "very-long-name-0")
}

func (l layout) expr(depth int) api.Expr {
	kind := 4 + l.IntN(4)
	if depth > 0 {
		kind = 1 + l.IntN(7)
	}
	switch kind {
	case 1, 2:
		e := api.Expr{Kind: kind}
		for range 2 + l.IntN(3) {
			e.Kids = append(e.Kids, l.expr(depth-1))
		}
		return e
	case 3:
		least, more := l.IntN(4), l.IntN(3)
		return rep(least, []int{least, least + more, -1}[l.IntN(3)], l.expr(depth-1))
	case 4:
		return ref(l.name())
	case 5:
		return fold(l.of("", "x", "xyz", "%s", " ", "a;b", "/", "[1]", "~!"))
	case 6:
		if l.IntN(2) == 0 {
			return nums(slices.Repeat([]int{88, 34, 1114111, 0, 120, 59, 200}[l.IntN(7):], 1+l.IntN(2))...)
		}
		return nums([]int{97, 66, 32, 126, 37, 59}[l.IntN(6):]...)
	}
	lo := l.IntN(1 << l.IntN(21))
	return span(lo, min(lo+l.IntN(1<<l.IntN(21)), 1114111))
}

// text writes rules, each from the beginning of a line, with empty lines between them.
func (l layout) text(rules []api.Line) string {
	s := l.emptyLines()
	for _, r := range rules {
		s += l.rule(r) + l.space() + l.lineEnd() + l.emptyLines()
	}
	return s
}

// rule writes a rule without its line end.
func (l layout) rule(r api.Line) string {
	sign := "="
	if r.More {
		sign = "=/"
	}
	return l.cased(r.Name) + l.space() + sign + l.space() + l.alternatives(r.Expr)
}

func (l layout) emptyLines() string {
	s := ""
	for l.IntN(3) == 0 {
		s += l.of("", "", " ", "\t ") + l.lineEnd()
	}
	return s
}

func (l layout) lineEnd() string {
	return l.of("", "", ";", "; = a", ";x;\t\"(") + l.of("\n", "\n", "\r\n")
}

// space returns white space, which may be empty.
func (l layout) space() string {
	if l.IntN(2) == 0 {
		return l.of("", " ")
	}
	return l.of("", l.gap())
}

// gap returns white space that is not empty.
func (l layout) gap() string {
	s := ""
	for range 1 + l.IntN(2) {
		s += l.of("", "", l.lineEnd()) + l.of(" ", " ", "\t")
	}
	return s
}

// cased writes a text with small and capital letters.
func (l layout) cased(s string) string {
	b := []byte(s)
	for i, c := range b {
		if between('a', 'z')(c) && l.IntN(3) == 0 {
			b[i] = c - 32
		}
	}
	return string(b)
}

func (l layout) alternatives(e api.Expr) string {
	if e.Kind != 1 {
		return l.concatenation(e)
	}
	var s []string
	for _, k := range e.Kids {
		s = append(s, l.concatenation(k))
	}
	return strings.Join(s, l.space()+"/"+l.space())
}

func (l layout) concatenation(e api.Expr) string {
	if e.Kind != 2 {
		return l.repetition(e)
	}
	s := l.repetition(e.Kids[0])
	for _, k := range e.Kids[1:] {
		s += l.gap() + l.repetition(k)
	}
	return s
}

func (l layout) repetition(e api.Expr) string {
	if e.Kind != 3 || e.Min == 0 && e.Max == 1 && l.IntN(2) == 0 {
		return l.element(e)
	}
	zeros := l.of("", "", "0", "000")
	least, most := zeros+fmt.Sprint(e.Min), zeros+fmt.Sprint(e.Max)
	switch {
	case e.Max < 0 && e.Min == 0:
		least, most = l.of("", least), ""
	case e.Max < 0:
		most = ""
	case e.Min == e.Max && l.IntN(2) == 0:
		return least + l.element(e.Kids[0])
	case e.Min == 0:
		least = l.of("", least)
	}
	return least + "*" + most + l.element(e.Kids[0])
}

func (l layout) element(e api.Expr) string {
	simple := e.Kind > 3
	switch {
	case e.Kind == 3 && e.Min == 0 && e.Max == 1 && l.IntN(2) == 0:
		return "[" + l.space() + l.alternatives(e.Kids[0]) + l.space() + "]"
	case !simple || l.IntN(8) == 0:
		return "(" + l.space() + l.alternatives(e) + l.space() + ")"
	case e.Kind == 4:
		return l.cased(e.Text)
	case e.Kind == 5 && e.Text == "":
		return l.of("", "%i", "%I", "%s", "%S") + `""`
	case e.Kind == 5:
		return l.of("", "%i", "%I") + `"` + l.cased(e.Text) + `"`
	}
	return l.numbers(e)
}

func (l layout) numbers(e api.Expr) string {
	quoted := e.Kind == 6
	text := ""
	for _, n := range e.N {
		quoted = quoted && n >= 32 && n <= 126 && n != 34
		text += string(rune(n))
	}
	if quoted && l.IntN(2) == 0 {
		return l.of("%s", "%S") + `"` + text + `"`
	}
	base := []int{2, 10, 16}[l.IntN(3)]
	var s []string
	for _, n := range e.N {
		s = append(s, l.of("", "", "0", "00000")+inBase(n, base))
	}
	return l.cased("%" + map[int]string{2: "b", 10: "d", 16: "x"}[base] + strings.Join(s, map[int]string{6: ".", 7: "-"}[e.Kind]))
}

// C1: rules are read, however they are written.
func TestLayouts(t *testing.T) {
	l := layout{rand.New(rand.NewPCG(3, 1))}
	for range 3000 {
		want := l.rules(l.IntN(4), 3)
		text := l.text(want)
		reads(t, text, want)
		reads(t, strings.TrimSuffix(text, "\r\n"), want)
		reads(t, strings.TrimSuffix(strings.TrimSuffix(text, "\n"), "\r"), want)
	}
}

// C2: two texts in one have the rules of both.
func TestConcatenation(t *testing.T) {
	l := layout{rand.New(rand.NewPCG(3, 2))}
	for range 3000 {
		one, two := l.rules(l.IntN(3), 2), l.rules(l.IntN(3), 2)
		first, second := l.text(one), l.text(two)
		if l.IntN(2) == 0 {
			second += l.of(" ", ";", "a = b", "a = b;", "c=d\t\n ;", "\n\t")
		}
		if l.IntN(4) == 0 {
			second = l.of(" \n", "\t;\n", "\r\n", ";\n", " ; a = \r\n \n") + second
		}
		rest, e := reader.Read(second)
		if e != api.OK {
			t.Fatalf("%q: error %d", second, e)
		}
		reads(t, first+second, slices.Concat(one, rest))
		if strings.HasSuffix(second, "\n") {
			reads(t, second+first+second, slices.Concat(rest, one, rest))
		}
	}
	text, l500 := manyRules(250)
	reads(t, text+text, slices.Concat(l500, l500))
}

// C2: comments at the ends of lines, other line ends, and empty lines change nothing.
func TestCommentsAndEmptyLines(t *testing.T) {
	l := layout{rand.New(rand.NewPCG(3, 3))}
	for range 2000 {
		want := l.rules(1+l.IntN(3), 2)
		var plain, rich, apart string
		for _, r := range want {
			line := strings.ReplaceAll(l.rule(r), "\r\n", "\n")
			plain += line + "\n"
			rich += strings.ReplaceAll(line, "\n", "; one\n") + l.of(";", " ;", "\t; two = \"x", ";;") + l.of("\n", "\r\n")
			apart += l.emptyLines() + line + l.of("\n", "\r\n", ";\n") + l.of("\n", " \n", "\t;\r\n", ";\n", "\n\n \n")
		}
		reads(t, plain, want)
		reads(t, rich, want)
		reads(t, apart, want)
		reads(t, strings.ReplaceAll(plain, "\n", "\r\n"), want)
		reads(t, strings.TrimSuffix(plain, "\n"), want)
		reads(t, strings.TrimSuffix(plain, "\n")+" ; the end", want)
	}
}

// lists calls for each list of numbers and each list of kids of an expression.
func lists(e *api.Expr, n func(*[]int), kids func(*[]api.Expr)) {
	n(&e.N)
	for i := range e.Kids {
		lists(&e.Kids[i], n, kids)
	}
	kids(&e.Kids)
}

// R3: the lists of a result are memory of their own: what is written into one of them, or behind it, changes no other one.
func TestMemory(t *testing.T) {
	l := layout{rand.New(rand.NewPCG(3, 4))}
	for range 300 {
		want := l.rules(3, 3)
		text := l.text(want)
		got, _ := reader.Read(text)
		for i := range got {
			lists(&got[i].Expr, func(n *[]int) { _ = append(*n, -1) }, func(kids *[]api.Expr) { _ = append(*kids, ref("no")) })
		}
		_ = append(got, api.Line{Name: "no"})
		if !slices.EqualFunc(got, want, sameLine) {
			t.Fatalf("%q: %s", text, short(got))
		}
		count := 0
		for i := range got {
			lists(&got[i].Expr, func(n *[]int) {
				for j := range *n {
					count++
					(*n)[j] = count
				}
			}, func(*[]api.Expr) {})
		}
		count = 0
		for i := range got {
			lists(&got[i].Expr, func(n *[]int) {
				for j := range *n {
					count++
					if (*n)[j] != count {
						t.Fatalf("%q: two lists share memory: %s", text, short(got))
					}
				}
			}, func(*[]api.Expr) {})
		}
		reads(t, text, want)
	}
}

// R4: a result hangs on nothing but the text: not on earlier calls, nor on calls at the same time.
func TestNoState(t *testing.T) {
	l := layout{rand.New(rand.NewPCG(3, 5))}
	want := l.rules(5, 3)
	text := l.text(want)
	var group sync.WaitGroup
	for _, before := range []string{"", "a = " + strings.Repeat("(", 50), "a = 201b", "=", text[:len(text)/2], strings.Repeat("a = b\n", 501), text, strings.Repeat(" ", 50001)} {
		group.Go(func() {
			for range 20 {
				reader.Read(before)
				reads(t, text, want)
			}
		})
	}
	group.Wait()
}
