package teller_test

import (
	"fmt"
	"slices"
	"strings"
	"testing"

	"reglet/api"
	"reglet/teller"
)

const greatest = 1114111

func ref(name string) api.Expr      { return api.Expr{Kind: 4, Text: name} }
func fold(text string) api.Expr     { return api.Expr{Kind: 5, Text: text} }
func nums(n ...int) api.Expr        { return api.Expr{Kind: 6, N: n} }
func span(n ...int) api.Expr        { return api.Expr{Kind: 7, N: n} }
func alt(kids ...api.Expr) api.Expr { return api.Expr{Kind: 1, Kids: kids} }
func seq(kids ...api.Expr) api.Expr { return api.Expr{Kind: 2, Kids: kids} }
func option(e api.Expr) api.Expr    { return rep(0, 1, e) }

func rep(least, most int, kids ...api.Expr) api.Expr {
	return api.Expr{Kind: 3, Min: least, Max: most, Kids: kids}
}

// forms returns a valid expression of each form, in the order of their kinds.
func forms() []api.Expr {
	return []api.Expr{
		alt(ref("b"), ref("c")), seq(ref("b"), ref("c")), rep(2, 3, ref("b")), ref("b"), fold("b"), nums(98), span(98, 99),
	}
}

func short(v any) string {
	s := fmt.Sprintf("%+v", v)
	if len(s) > 300 {
		s = s[:150] + " .. " + s[len(s)-150:]
	}
	return s
}

// tells asks whether an expression is right, and whether Tell says the same.
func tells(t *testing.T, e api.Expr, want bool) {
	t.Helper()
	if teller.Right(e) != want {
		t.Errorf("Right(%s) is not %t", short(e), want)
	}
	errno := api.OK
	if !want {
		errno = api.ErrArg
	}
	if s, got := teller.Tell([]api.Line{{Name: "a", Expr: e}}); got != errno || (s != "") != want {
		t.Errorf("Tell of %s: %s, error %d", short(e), short(s), got)
	}
}

// isRight asks the same of an expression that is not deep, also where it is a kid.
func isRight(t *testing.T, e api.Expr, want bool) {
	t.Helper()
	b := ref("b")
	for _, whole := range []api.Expr{
		e, alt(e, b), alt(b, e), alt(b, e, b), seq(e, b), seq(b, e), seq(b, b, b, e), rep(0, -1, e), rep(1, 2, e), rep(0, 0, e), option(e), alt(e, e), seq(e, e, e),
		option(alt(b, seq(b, rep(2, 2, b), rep(1, -1, option(e))))),
	} {
		tells(t, whole, want)
	}
}

// isName asks whether a text is a valid name, wherever a name may stand.
func isName(t *testing.T, s string, want bool) {
	t.Helper()
	if teller.Name(s) != want {
		t.Errorf("Name(%q) is not %t", short(s), want)
	}
	isRight(t, ref(s), want)
	errno := api.OK
	if !want {
		errno = api.ErrArg
	}
	if text, got := teller.Tell([]api.Line{{Name: s, Expr: ref("b")}}); got != errno || (text != "") != want {
		t.Errorf("Tell of the name %q: %s, error %d", short(s), short(text), got)
	}
}

// D1: names.
func TestName(t *testing.T) {
	for _, s := range []string{"a", "z", "m", "ab", "a0", "a9", "a-", "a--", "a-b", "z-9-", "rule-1", "q0123456789", "abcdefghijklmnopqrstuvwxyz", "a-a-a"} {
		isName(t, s, true)
	}
	for _, s := range []string{
		"", " ", "-", "-a", "--", "0", "9", "1a", "0-", "A", "Z", "Ab", "aB", "aZ", "abA", " a", "a ", "a b", "\ta", "a\t", "a\n", "\na", "a\r\n", "a\x00", "\x00a", "a_b", "_a", "a.b", "a/b",
		"a=", "a;", "(a)", "[a]", "<a>", "\"a\"", "%x41", "*a", "2a", "a*", "é", "aé", "a\xff", "\xffa", "a\x80", "\x80", "\xe1", "a\u0161", "a\uff41", "a\u212a", "a\u2010b", "a\u00ad",
	} {
		isName(t, s, false)
	}
}

// D1: each byte in a name.
func TestBytesOfNames(t *testing.T) {
	for i := range 256 {
		s := string([]byte{byte(i)})
		letter := strings.Contains("abcdefghijklmnopqrstuvwxyz", s)
		further := strings.Contains("abcdefghijklmnopqrstuvwxyz0123456789-", s)
		isName(t, s, letter)
		isName(t, s+"b", letter)
		isName(t, s+"-", letter)
		isName(t, "b"+s, further)
		isName(t, "b"+s+"b", further)
		isName(t, "b--0"+s+"9", further)
		isName(t, strings.Repeat("b", 39)+s, further)
	}
}

// D1: how long a name may be.
func TestLengthOfNames(t *testing.T) {
	for n := 1; n <= 300; n++ {
		isName(t, strings.Repeat("a", n), n <= 40)
		isName(t, "a"+strings.Repeat("-", n-1), n <= 40)
		isName(t, "a"+strings.Repeat("09", n)[:n-1], n <= 40)
	}
	isName(t, strings.Repeat("a", 1<<20), false)
	// Bytes are counted, not characters; but no name has one of more bytes.
	isName(t, strings.Repeat("é", 20), false)
}

// D1: a valid expression of each form, and as a kid of each other.
func TestRightForms(t *testing.T) {
	for _, e := range forms() {
		isRight(t, e, true)
		for _, f := range forms() {
			isRight(t, alt(e, f), true)
			isRight(t, seq(e, f), true)
		}
	}
}

// D1: kinds that there are, and others.
func TestKinds(t *testing.T) {
	for _, e := range append(forms(), api.Expr{}, alt(), fold("")) {
		for _, kind := range []int{0, -1, -2, -3, -4, -5, -6, -7, 8, 9, 10, 15, 16, 255, 256, 257, 260, 1 << 8, 1<<16 + 4, 1 << 32, 1<<32 + 1, 1<<32 + 4, 1<<32 + 5, 1<<62 + 4, -1 << 63, 1<<63 - 1} {
			e.Kind = kind
			isRight(t, e, false)
		}
	}
	// A form is valid as its own kind, and as another one only if that has the same fields.
	for _, e := range forms() {
		own := e.Kind
		for kind := 1; kind <= 7; kind++ {
			e.Kind = kind
			same := kind == own || own <= 2 && kind <= 2 || own == 4 && kind == 5 || own == 5 && kind == 4 || own == 7 && kind == 6
			isRight(t, e, same)
		}
	}
}

// D1: how many kids a form has.
func TestKids(t *testing.T) {
	b := ref("b")
	for n := range 12 {
		kids := slices.Repeat([]api.Expr{b}, n)
		isRight(t, alt(kids...), n >= 2)
		isRight(t, seq(kids...), n >= 2)
		isRight(t, rep(0, -1, kids...), n == 1)
		isRight(t, rep(2, 2, kids...), n == 1)
		isRight(t, rep(0, 1, kids...), n == 1)
		isRight(t, rep(0, 0, kids...), n == 1)
	}
	many := slices.Repeat([]api.Expr{b}, 20000)
	isRight(t, alt(many...), true)
	isRight(t, seq(many...), true)
	isRight(t, rep(0, -1, many...), false)
	many[19999].Text = ""
	isRight(t, alt(many...), false)
	isRight(t, seq(many...), false)
	isRight(t, api.Expr{Kind: 1}, false)
	isRight(t, api.Expr{Kind: 2}, false)
	isRight(t, api.Expr{Kind: 3, Max: -1}, false)
}

// D1: how often something may be repeated.
func TestCounts(t *testing.T) {
	edges := []int{-1 << 63, -1 << 32, -201, -200, -3, -2, -1, 0, 1, 2, 3, 100, 199, 200, 201, 202, 255, 256, 1 << 16, 1<<32 - 1, 1 << 32, 1<<32 + 1, 1<<63 - 1}
	for _, least := range edges {
		for _, most := range edges {
			valid := least >= 0 && least <= 200 && (most == -1 || most >= least && most <= 200)
			isRight(t, rep(least, most, ref("b")), valid)
		}
	}
	for least := -3; least <= 204; least++ {
		for most := -3; most <= 204; most++ {
			valid := least >= 0 && least <= 200 && (most == -1 || least <= most && most <= 200)
			tells(t, rep(least, most, fold("b")), valid)
		}
	}
}

// D1: each field that a form does not have, one at a time.
func TestOtherFields(t *testing.T) {
	set := map[string]func(*api.Expr, int){
		"Text": func(e *api.Expr, i int) { e.Text = []string{"b", "x", " ", "\x00", "\"", "longer"}[i] },
		"N":    func(e *api.Expr, i int) { e.N = [][]int{{0}, {98}, {-1}, {98, 99}, {1, 2, 3}, {0, 0}}[i] },
		"Min":  func(e *api.Expr, i int) { e.Min = []int{1, -1, 2, 200, 1 << 32, -1 << 63}[i] },
		"Max":  func(e *api.Expr, i int) { e.Max = []int{1, -1, 2, 200, 1 << 32, -1 << 63}[i] },
		"Kids": func(e *api.Expr, i int) {
			e.Kids = [][]api.Expr{{ref("b")}, {{}}, {ref("b"), ref("c")}, {alt()}, {{}, {}}, {fold("")}}[i]
		},
	}
	has := map[int]string{1: "Kids", 2: "Kids", 3: "Kids Min Max", 4: "Text", 5: "Text", 6: "N", 7: "N"}
	for _, e := range forms() {
		for field, write := range set {
			if strings.Contains(has[e.Kind], field) {
				continue
			}
			for i := range 6 {
				wrong := e
				write(&wrong, i)
				isRight(t, wrong, false)
			}
		}
	}
}

// D1: two other fields that might outweigh each other.
func TestTwoOtherFields(t *testing.T) {
	for _, e := range forms() {
		if e.Kind == 3 {
			continue
		}
		e.Min, e.Max = 1, -1
		isRight(t, e, false)
		e.Min, e.Max = -1, 1
		isRight(t, e, false)
		e.Min, e.Max = -5, 5
		isRight(t, e, false)
		e.Min, e.Max = 1, 1
		isRight(t, e, false)
	}
}

// D1: an empty field may be a list that is not nil.
func TestEmptyFields(t *testing.T) {
	for _, e := range forms() {
		if e.Kind <= 3 {
			e.N = []int{}
		} else {
			e.Kids = make([]api.Expr, 0, 3)
		}
		isRight(t, e, true)
		if e.Kind == 4 || e.Kind == 5 {
			e.N = make([]int, 0, 5)
		}
		isRight(t, e, true)
	}
}

// D1: the bytes of a Fold.
func TestFolds(t *testing.T) {
	isRight(t, fold(""), true)
	for i := range 256 {
		s := string([]byte{byte(i)})
		valid := i >= 32 && i <= 126 && i != '"' && !strings.Contains("ABCDEFGHIJKLMNOPQRSTUVWXYZ", s)
		isRight(t, fold(s), valid)
		isRight(t, fold(s+"b"), valid)
		isRight(t, fold("b"+s), valid)
		isRight(t, fold("b"+s+"c"), valid)
		isRight(t, fold(strings.Repeat(" ~0z", 30)+s), valid)
	}
	for _, s := range []string{" ", "  ", "~", "!", "#", "@", "[", "`", "a", "z", "{", "\\", "%s", "%x41", "; a", "(b)", "a = b", "0", "'", strings.Repeat("q", 41), strings.Repeat("b ", 100000)} {
		isRight(t, fold(s), true)
	}
	for _, s := range []string{"\"", "\"\"", "a\"", "A", "Z", "aM", "\x1f", "\x7f", "\x80", "\xff", "é", "\t", "\n", "a\n", "\r", "\x00", "\u2028", "\u0391", strings.Repeat("b ", 100000) + "B"} {
		isRight(t, fold(s), false)
	}
}

// D1: how many numbers a Nums has.
func TestLengthOfNums(t *testing.T) {
	for _, n := range []int{1, 2, 3, 100, 255, 256, 257, 9999, 10000} {
		isRight(t, nums(make([]int, n)...), true)
		isRight(t, nums(slices.Repeat([]int{greatest}, n)...), true)
	}
	for _, n := range []int{0, 10001, 10002, 20000, 1 << 16, 1 << 20} {
		tells(t, nums(make([]int, n)...), false)
		isRight(t, nums(slices.Repeat([]int{65}, n)...), false)
	}
	isRight(t, api.Expr{Kind: 6}, false)
	isRight(t, api.Expr{Kind: 6, N: []int{}}, false)
}

// D1: the numbers of a Nums and of a Span.
func TestNumbers(t *testing.T) {
	edges := map[int]bool{
		-1 << 63: false, -1 << 32: false, -1114111: false, -2: false, -1: false, 0: true, 1: true, 31: true, 34: true, 65: true, 127: true, 128: true, 255: true, 256: true, 0xD7FF: true, 0xD800: true,
		0xDFFF: true, 0xE000: true, 65535: true, 65536: true, greatest - 1: true, greatest: true, greatest + 1: false, greatest + 2: false, 1<<21 - 1: false, 1 << 21: false, 1 << 31: false, 1 << 32: false,
		1<<32 + 65: false, 1<<63 - 1: false,
	}
	for a, valid := range edges {
		isRight(t, nums(a), valid)
		isRight(t, nums(a, 5), valid)
		isRight(t, nums(5, a), valid)
		isRight(t, nums(1, a, 1), valid)
		isRight(t, nums(append(make([]int, 9999), a)...), valid)
		for b, alsoValid := range edges {
			isRight(t, nums(a, b), valid && alsoValid)
			isRight(t, span(a, b), valid && alsoValid && a <= b)
		}
	}
	for a := -2; a < 300; a++ {
		tells(t, nums(a), a >= 0)
		tells(t, span(a, 255), a >= 0 && a <= 255)
		tells(t, span(a, a), a >= 0)
		tells(t, span(a, a-1), false)
		tells(t, span(a, a+1), a >= 0)
	}
}

// D1: a Span has two numbers.
func TestLengthOfSpans(t *testing.T) {
	isRight(t, span(), false)
	isRight(t, span(0), false)
	isRight(t, span(65), false)
	isRight(t, span(65, 66, 67), false)
	isRight(t, span(65, 65, 65), false)
	isRight(t, span(1, 2, 3, 4), false)
	isRight(t, span(0, 0), true)
	isRight(t, span(make([]int, 10000)...), false)
}

// deep encloses an expression in others, made by the makers in turn.
func deep(e api.Expr, depth int, makers ...func(api.Expr) api.Expr) api.Expr {
	for i := range depth {
		e = makers[i%len(makers)](e)
	}
	return e
}

// makers returns functions that put an expression into another one.
func makers() []func(api.Expr) api.Expr {
	b := ref("b")
	return []func(api.Expr) api.Expr{
		func(e api.Expr) api.Expr { return alt(e, b) },
		func(e api.Expr) api.Expr { return alt(b, e) },
		func(e api.Expr) api.Expr { return seq(e, b) },
		func(e api.Expr) api.Expr { return seq(b, b, e, b) },
		func(e api.Expr) api.Expr { return rep(2, 3, e) },
		func(e api.Expr) api.Expr { return rep(0, 0, e) },
		option,
	}
}

// D1: in how many others an expression may be nested.
func TestDepth(t *testing.T) {
	all := makers()
	ways := [][]func(api.Expr) api.Expr{all}
	for i, one := range all {
		ways = append(ways, []func(api.Expr) api.Expr{one})
		for _, two := range all[i+1:] {
			ways = append(ways, []func(api.Expr) api.Expr{one, two})
		}
	}
	for _, way := range ways {
		for _, leaf := range forms()[3:] {
			for _, depth := range []int{1, 2, 10, 48, 49, 50} {
				tells(t, deep(leaf, depth, way...), true)
			}
			for _, depth := range []int{51, 52, 53, 60, 100, 1000} {
				tells(t, deep(leaf, depth, way...), false)
			}
		}
		for _, form := range forms()[:3] {
			tells(t, deep(form, 49, way...), true)
			tells(t, deep(form, 50, way...), false)
		}
		tells(t, deep(api.Expr{}, 50, way...), false)
		tells(t, deep(fold("B"), 50, way...), false)
		tells(t, deep(fold("b"), 20000, way...), false)
	}
}

// D1: it is the deepest place that counts, wherever it is; and what is beside it does not count.
func TestPlaceOfDepth(t *testing.T) {
	down := func(depth int) api.Expr { return deep(ref("b"), depth, makers()[6]) }
	for _, whole := range []func(...api.Expr) api.Expr{alt, seq} {
		for _, depth := range []int{48, 49, 50, 51} {
			tells(t, whole(down(depth), ref("c"), ref("d")), depth < 50)
			tells(t, whole(ref("c"), down(depth), ref("d")), depth < 50)
			tells(t, whole(ref("c"), ref("d"), down(depth)), depth < 50)
			tells(t, whole(down(depth), down(depth), down(depth)), depth < 50)
			tells(t, whole(whole(down(30), ref("c")), down(49), down(depth)), depth < 50)
		}
	}
}

// R1: an expression that is nested in itself has no end.
func TestEndless(t *testing.T) {
	b := ref("b")
	for _, e := range []api.Expr{alt(b, b), alt(b, b, b), seq(b, b), seq(b, b, b), rep(0, -1, b), rep(2, 2, b), option(b)} {
		for i := range e.Kids {
			one := e
			one.Kids = slices.Clone(e.Kids)
			one.Kids[i] = one
			isRight(t, one, false)
		}
		all := e
		all.Kids = slices.Clone(e.Kids)
		for i := range all.Kids {
			all.Kids[i] = all
		}
		isRight(t, all, false)
	}
}
