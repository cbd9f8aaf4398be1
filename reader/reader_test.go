package reader_test

import (
	"fmt"
	"slices"
	"strings"
	"testing"

	"reglet/api"
	"reglet/reader"
)

const greatest = 1114111

func ref(name string) api.Expr       { return api.Expr{Kind: 4, Text: name} }
func fold(text string) api.Expr      { return api.Expr{Kind: 5, Text: text} }
func nums(n ...int) api.Expr         { return api.Expr{Kind: 6, N: n} }
func span(lo, hi int) api.Expr       { return api.Expr{Kind: 7, N: []int{lo, hi}} }
func alt(kids ...api.Expr) api.Expr  { return api.Expr{Kind: 1, Kids: kids} }
func seq(kids ...api.Expr) api.Expr  { return api.Expr{Kind: 2, Kids: kids} }
func rule(e api.Expr) api.Line       { return api.Line{Name: "a", Expr: e} }
func lines(l ...api.Line) []api.Line { return l }

func rep(least, most int, e api.Expr) api.Expr {
	return api.Expr{Kind: 3, Min: least, Max: most, Kids: []api.Expr{e}}
}

// same holds two expressions against each other, for which a list that is nil is an empty list.
func same(a, b api.Expr) bool {
	return a.Kind == b.Kind && a.Text == b.Text && a.Min == b.Min && a.Max == b.Max &&
		slices.Equal(a.N, b.N) && slices.EqualFunc(a.Kids, b.Kids, same)
}

func sameLine(a, b api.Line) bool {
	return a.Name == b.Name && a.More == b.More && same(a.Expr, b.Expr)
}

func short(v any) string {
	s := fmt.Sprintf("%+v", v)
	if len(s) > 300 {
		s = s[:150] + " .. " + s[len(s)-150:]
	}
	return s
}

// reads asks that a text has just these rules.
func reads(t *testing.T, text string, want []api.Line) {
	t.Helper()
	got, e := reader.Read(text)
	if e != api.OK || !slices.EqualFunc(got, want, sameLine) {
		t.Errorf("%s: error %d, rules %s, want %s", short(fmt.Sprintf("%q", text)), e, short(got), short(want))
	}
}

// becomes asks what the text of one expression is read as.
func becomes(t *testing.T, text string, want api.Expr) {
	t.Helper()
	reads(t, "a = "+text, lines(rule(want)))
}

// fails asks that a text has an error, and that no rules come with it.
func fails(t *testing.T, text string, want api.Errno) {
	t.Helper()
	got, e := reader.Read(text)
	if e != want || len(got) != 0 {
		t.Errorf("%s: error %d, want %d, rules %s", short(fmt.Sprintf("%q", text)), e, want, short(got))
	}
}

// C1: a text has at most MaxText bytes, whatever they are.
func TestLengthOfText(t *testing.T) {
	for _, head := range []string{"", "a = b", "a = b\n", "a = b ;", ";", "\n\n"} {
		want := []api.Line{}
		if strings.Contains(head, "a") {
			want = lines(rule(ref("b")))
		}
		rest := strings.Repeat(" ", 50000-len(head))
		reads(t, head+rest, want)
		reads(t, head+rest[1:], want)
		fails(t, head+rest+" ", api.ErrLong)
		fails(t, head+rest+strings.Repeat("\n", 30000), api.ErrLong)
	}
	reads(t, strings.Repeat("\n", 50000), nil)
	fails(t, strings.Repeat("\n", 50001), api.ErrLong)
	fails(t, strings.Repeat("\n", 1<<20), api.ErrLong)
	for _, wrong := range []string{"\x00", "\xff", "a", "=", "(", "\r", ")"} {
		fails(t, strings.Repeat(wrong, 50001), api.ErrLong)
	}
	for _, wrong := range []string{"\x00", "\xff", "=", "(", "\r", ")"} {
		fails(t, strings.Repeat(wrong, 50000), api.ErrForm)
	}
}

// C1: what a text of the greatest length may have.
func TestGreatTexts(t *testing.T) {
	refs := slices.Repeat([]api.Expr{ref("b")}, 24998)
	becomes(t, strings.TrimSpace(strings.Repeat("b ", 24998)), seq(refs...))
	becomes(t, strings.TrimSuffix(strings.Repeat("b/", 24998), "/"), alt(refs...))
	becomes(t, "%x1"+strings.Repeat(".2", 24996), nums(append([]int{1}, slices.Repeat([]int{2}, 24996)...)...))
	becomes(t, `"`+strings.Repeat("Q", 49994)+`"`, fold(strings.Repeat("q", 49994)))
	becomes(t, `%s"`+strings.Repeat("Q", 49992)+`"`, nums(slices.Repeat([]int{81}, 49992)...))
	becomes(t, "b "+strings.Repeat("\n ", 24995)+"c", seq(ref("b"), ref("c")))
	becomes(t, "b"+strings.Repeat(";\n ", 16664)+"c", seq(ref("b"), ref("c")))
}

// C1: the rules of a text, in order.
func TestRules(t *testing.T) {
	b := rule(ref("b"))
	for _, text := range []string{
		"a = b", "a=b", "a =b", "a= b", "a\t=\tb", "a  \t  =  b", "a\n =\n b", "a\r\n\t=\r\n\tb", "a;\n =;\n b", "a ; = c\n = ; = d\n b",
		"a = b ", "a = b\t", "a = b\n", "a = b\r\n", "a = b \t\r\n", "a = b;", "a = b ;", "a = b ; = c", "a = b;\n", "a = b ;c\r\n",
		"a = b\n\n", "a = b\n\n\n", "a = b\r\n\r\n", "a = b\n ", "a = b\n \n", "a = b\n \n ", "a = b\n\n ", "a = b\n ;", "a = b\n;\n", "a = b;;\n\n;\n ;\n",
		"\na = b", "\r\na = b", " \na = b", "\t \r\n\n;\n ; c = d\n;\r\na = b", ";a = c\na = b", "A = B", "a = b\n;c = d", "a = (b)",
	} {
		reads(t, text, lines(b))
	}
	for _, text := range []string{
		"", " ", "\t", "\n", "\r\n", "\n\n", "\r\n\n", " \n", " \n ", ";", ";\n", " ;", "\t;\t", " ; a = b", ";a = b\n", ";\r\n;\r\n", "\n \n\t\r\n  ", "; \t!~;\"\n",
	} {
		reads(t, text, nil)
	}
	reads(t, "a = b\nc = d", lines(b, api.Line{Name: "c", Expr: ref("d")}))
	reads(t, "c = d\r\n\r\n ;\na = b\r\n", lines(api.Line{Name: "c", Expr: ref("d")}, b))
	reads(t, "a = b\na = c\nA =/ b\nb =/b\na = b", lines(b, rule(ref("c")),
		api.Line{Name: "a", More: true, Expr: ref("b")}, api.Line{Name: "b", More: true, Expr: ref("b")}, b))
	reads(t, "a = b\n\tc\n d\ne = f", lines(rule(seq(ref("b"), ref("c"), ref("d"))), api.Line{Name: "e", Expr: ref("f")}))
}

// C1: the sign between a name and its alternatives.
func TestMore(t *testing.T) {
	for _, text := range []string{"a=/b", "a =/ b", "a\n =/\n b", "a ;\n =/;\r\n\tb;"} {
		reads(t, text, lines(api.Line{Name: "a", More: true, Expr: ref("b")}))
	}
	for _, text := range []string{
		"a = / b", "a = /b", "a =\n /b", "a =// b", "a =/", "a =/ ", "a =/ / b", "a =/\nb", "a /= b", "a / b", "a == b", "a =/= b", "a := b", "a : b", "a",
		"a ", "a b", "a b = c", "a\n= b", "a=\nb", "a = ", "a =", "a = \n", "=", "= b", "=/ b", "a = =", "/", "a;= b",
	} {
		fails(t, text, api.ErrForm)
	}
}

// C1: a rule begins at the beginning of a line, and ends with one.
func TestPlacesOfRules(t *testing.T) {
	for _, text := range []string{
		" a = b", "\ta = b", "\n a = b", ";\n a = b", " \n\ta = b", "a = b\n\n c = d", "a = b\n c = d", "a = b c = d", "a = b\n\n c", "a = b;\n\n c",
		"a = b\rc = d", "a = b\r", "a = b \r\r\n", "\r", "\ra = b", "a = b\n\r", "\r\r\n", " \r", "a\r = b", "a = \rb", "a = b\r c", "a = b\n\rc = d", "a = b\r\n\rc = d",
		"a = b;\rc = d", "a = b;\r", ";\r", ";\r\r\n", "a = b;\n\r c", "a = b\nc", "a = b\n1", "a = b\n-", "a = b\n(c)", "a = b\n/ c", "a = b\n\"c\"", "a = b\n/c",
	} {
		fails(t, text, api.ErrForm)
	}
}

// manyRules returns the text of n rules, and what they are read as.
func manyRules(n int) (string, []api.Line) {
	var text strings.Builder
	var l []api.Line
	for i := range n {
		l = append(l, api.Line{Name: fmt.Sprint("r", i), More: i%3 == 1, Expr: ref(fmt.Sprint("s", i))})
		text.WriteString(l[i].Name + []string{" = ", "=/"}[i%3%2] + l[i].Expr.Text + "\n")
	}
	return text.String(), l
}

// C1: a text has at most MaxRules rules, and one more is told behind its end.
func TestCountOfRules(t *testing.T) {
	for _, n := range []int{1, 2, 499, 500} {
		text, l := manyRules(n)
		reads(t, text, l)
		reads(t, "\n;\n"+strings.ReplaceAll(text, "\n", " ; = \r\n\n \n;\n")+"\n\n;", l)
	}
	for _, n := range []int{501, 502, 1000} {
		text, _ := manyRules(n)
		fails(t, text, api.ErrLong)
		fails(t, text+"(", api.ErrLong)
		fails(t, text+"a = b\n a = b", api.ErrLong)
		fails(t, strings.TrimSuffix(text, "\n"), api.ErrLong)
		fails(t, strings.TrimSuffix(text, "\n")+";", api.ErrLong)
		fails(t, strings.TrimSuffix(text, "\n")+"\n ;\n", api.ErrLong)
		fails(t, "("+text, api.ErrForm)
	}
	text, l := manyRules(500)
	reads(t, text+" ; a = b\n\n\t", l)
	for _, last := range []string{"a", "a =", "a = (", "a = b)", "a = b\rc", "a = b ;\x01", "a = b\n )", "1"} {
		fails(t, text+last, api.ErrForm)
		fails(t, text+last+"\n"+text, api.ErrForm)
	}
	fails(t, text+"a = 201b", api.ErrLong)
	fails(t, text+"a = b\n\x01", api.ErrLong)
	fails(t, text+"a = b\nc = (", api.ErrLong)
}

// C1: what names consist of, and how long they are.
func TestNames(t *testing.T) {
	for _, name := range []string{
		"b", "B", "z", "Z", "rule", "RULE", "Rule-Name-2", "a-", "a--", "a-1", "a1", "A0-Z9", "x41", "abcdefghijklmnopqrstuvwxyz", "ABCDEFGHIJKLMNOPQRSTUVWXYZ",
		"n0123456789", strings.Repeat("a", 39), strings.Repeat("a", 40), strings.Repeat("A", 40), "a" + strings.Repeat("-", 39), "a" + strings.Repeat("7", 39),
	} {
		low := strings.ToLower(name)
		becomes(t, name, ref(low))
		becomes(t, "2"+name, rep(2, 2, ref(low)))
		becomes(t, "("+name+")", ref(low))
		reads(t, name+" = b\n"+name+"=/b", lines(api.Line{Name: low, Expr: ref("b")}, api.Line{Name: low, More: true, Expr: ref("b")}))
	}
	for _, name := range []string{
		strings.Repeat("a", 41), strings.Repeat("A", 41), "a" + strings.Repeat("-", 40), "a" + strings.Repeat("7", 40), strings.Repeat("b-1", 14), strings.Repeat("a", 1000),
		strings.Repeat("a", 49000),
	} {
		fails(t, name+" = b", api.ErrLong)
		fails(t, name, api.ErrLong)
		fails(t, name+"\x00", api.ErrLong)
		fails(t, "a = "+name, api.ErrLong)
		fails(t, "a = b "+name+" )", api.ErrLong)
		fails(t, "a = 2("+name, api.ErrLong)
		fails(t, ") = "+name, api.ErrForm)
	}
	for _, name := range []string{"-", "-a", "1", "1a", "_", "_a", "a_", "a.b", "a_b", "a b", "<a>", "\xc3\xa4", "a\xc3\xa4", "a\x00", "@", "`", "{"} {
		fails(t, name+" = b", api.ErrForm)
	}
	for _, name := range []string{"-", "-a", "_", "_a", "a_", "a.b", "a_b", "<a>", "\xc3\xa4", "a\xc3\xa4", "a\x00", "@", "`", "{", "a\"b\"", "a(b)", "a[b]", "a%x1", "a*b"} {
		fails(t, "a = "+name, api.ErrForm)
	}
}

// C1: alternatives, concatenations and brackets, and which of them leave no trace.
func TestAlternativesAndConcatenations(t *testing.T) {
	b, c, d, e := ref("b"), ref("c"), ref("d"), ref("e")
	for text, want := range map[string]api.Expr{
		"b/c":                    alt(b, c),
		"b / c / d":              alt(b, c, d),
		"b/ c\t/d":               alt(b, c, d),
		"b\n /\n c\r\n\t/;x\n d": alt(b, c, d),
		"b c":                    seq(b, c),
		"b\tc  d":                seq(b, c, d),
		"b\n c;\n\td \n \n e":    seq(b, c, d, e),
		"b c / d e":              alt(seq(b, c), seq(d, e)),
		"b / c d / e":            alt(b, seq(c, d), e),
		"(b)":                    b,
		"((b))":                  b,
		"( b\t)":                 b,
		"(\n b;\r\n )":           b,
		"(b / c) / d":            alt(alt(b, c), d),
		"b / (c / d)":            alt(b, alt(c, d)),
		"(b c) d":                seq(seq(b, c), d),
		"b (c d)":                seq(b, seq(c, d)),
		"(b c) / d":              alt(seq(b, c), d),
		"b (c / d) e":            seq(b, alt(c, d), e),
		"(b / c)":                alt(b, c),
		"((b c))":                seq(b, c),
		"[b]":                    rep(0, 1, b),
		"[ b ]":                  rep(0, 1, b),
		"[\n\tb;]\n ]":           rep(0, 1, b),
		"[b / c]":                rep(0, 1, alt(b, c)),
		"[b c]":                  rep(0, 1, seq(b, c)),
		"[[b]]":                  rep(0, 1, rep(0, 1, b)),
		"[(b)]":                  rep(0, 1, b),
		"([b])":                  rep(0, 1, b),
		"[b] c [d]":              seq(rep(0, 1, b), c, rep(0, 1, d)),
		"[b] / c":                alt(rep(0, 1, b), c),
		"b / b":                  alt(b, b),
		"b b":                    seq(b, b),
		`b "x" %x1 (c) *d [e] 2b`: seq(b, fold("x"), nums(1), c, rep(0, -1, d), rep(0, 1, e),
			rep(2, 2, b)),
		"b c/d": alt(seq(b, c), d),
	} {
		becomes(t, text, want)
	}
	for _, text := range []string{
		"b /", "b / ", "b //c", "b / / c", "/ b", "b / )", "b c /", "()", "( )", "[]", "[ ]", "(", "[", "(b", "[b", "(b ", "[b\n ", ")", "]", "b)", "b]", "b c)", "(b]", "[b)",
		"(b))", "[b]]", "((b)", "([b)]", "(b)(c)", "(b)c", "b(c)", "b[c]", "[b][c]", "[b]c", `"b""c"`, `b"c"`, `"b"c`, `"b"(c)`, "b,c", "b|c", "b + c", "b . c", "{b}", "<b>", "b?",
		"b\nc", "b /\nc", "(\nb)", "(b\n)", "[b\n]", "(b;)", "(b /)", "(/b)", "[b /]", "(b ;)\n", "b %", "b *", "b 2", "b -", "b =", "b / =", "'b'", "!b", "b ~", "b \\",
	} {
		fails(t, "a = "+text, api.ErrForm)
		fails(t, "c = d\na = "+text+"\n", api.ErrForm)
	}
}

// C1: the numbers ahead of an element.
func TestRepetitions(t *testing.T) {
	b := ref("b")
	for text, want := range map[string]api.Expr{
		"*b": rep(0, -1, b), "1*b": rep(1, -1, b), "*1b": rep(0, 1, b), "1*2b": rep(1, 2, b), "2b": rep(2, 2, b), "0b": rep(0, 0, b), "1b": rep(1, 1, b),
		"0*b": rep(0, -1, b), "*0b": rep(0, 0, b), "0*0b": rep(0, 0, b), "0*1b": rep(0, 1, b), "1*1b": rep(1, 1, b), "10b": rep(10, 10, b), "9*10b": rep(9, 10, b),
		"199b": rep(199, 199, b), "200b": rep(200, 200, b), "200*b": rep(200, -1, b), "*200b": rep(0, 200, b), "200*200b": rep(200, 200, b), "0*200b": rep(0, 200, b),
		"007b": rep(7, 7, b), "00*b": rep(0, -1, b), "*000b": rep(0, 0, b), "0010*0011b": rep(10, 11, b), "0200b": rep(200, 200, b),
		strings.Repeat("0", 20000) + "200*" + strings.Repeat("0", 20000) + "200b": rep(200, 200, b),
		"2(b)": rep(2, 2, b), "2( b / c )": rep(2, 2, alt(b, ref("c"))), "*(b c)": rep(0, -1, seq(b, ref("c"))),
		"2[b]": rep(2, 2, rep(0, 1, b)), "*[b]": rep(0, -1, rep(0, 1, b)), "*1[b]": rep(0, 1, rep(0, 1, b)), "2(3b)": rep(2, 2, rep(3, 3, b)), "*(*b)": rep(0, -1, rep(0, -1, b)),
		`2"x"`: rep(2, 2, fold("x")), `1*3%s"x"`: rep(1, 3, nums(120)), "*%x1-2": rep(0, -1, span(1, 2)), "3%d1.2": rep(3, 3, nums(1, 2)), "1%d2": rep(1, 1, nums(2)),
		"2b 3b / *b": alt(seq(rep(2, 2, b), rep(3, 3, b)), rep(0, -1, b)), "2*3x4": rep(2, 3, ref("x4")), "(2b)": rep(2, 2, b), "[2b]": rep(0, 1, rep(2, 2, b)),
	} {
		becomes(t, text, want)
	}
	for _, text := range []string{
		"2*1b", "1*0b", "200*199b", "2*0b", "10*9b", "0010*009b", "3*2(b)", `3*2"x"`, "3*2%x1", "3*2[b]", "(3*2b)", "2*(3*2b)", "b 3*2b", "3*2b c",
		"2", "*", "2*", "2*3", "*3", "2 b", "2 *b", "* b", "2* b", "2*3 b", "2\n b", "2*3*b", "2*3*4b", "**b", "2**b", "*2*b", "-1b", "+1b", "1-2b", "1.2b", "2,3b", "*-1b",
		"2/b", "2)", "(2)", "(*)", "*/b", "2=b", "2;b", "2 3b", "%2b", "2%", "0x2b)", "2*\x00b", "#b",
	} {
		fails(t, "a = "+text, api.ErrForm)
	}
	for _, n := range []string{
		"201", "202", "256", "456", "999", "0201", "2000", "2147483648", "4294967296", "4294967297", "9223372036854775807", "9223372036854775808", "9223372036854775809",
		"18446744073709551615", "18446744073709551616", "18446744073709551617", "340282366920938463463374607431768211456", "340282366920938463463374607431768211457",
		"1" + strings.Repeat("0", 40000), strings.Repeat("9", 40000), strings.Repeat("0", 20000) + "201",
	} {
		for _, text := range []string{"#b", "#*b", "*#b", "1*#b", "#*1b", "#*#b", "#", "#)", "#*", "*#", "(#b)", "b #b", "b / *#b", "2(#b)", "#*201b"} {
			fails(t, "a = "+strings.Replace(text, "#", n, 1), api.ErrLong)
		}
	}
}

// C1: strings, with small letters and capital ones.
func TestStrings(t *testing.T) {
	const all = " !#$%&'()*+,-./0123456789:;<=>?@ABCXYZ[\\]^_`abcxyz{|}~"
	var bytes []int
	for i := range len(all) {
		bytes = append(bytes, int(all[i]))
	}
	for text, want := range map[string]api.Expr{
		`"x"`: fold("x"), `"X"`: fold("x"), `"Xy-Z 1"`: fold("xy-z 1"), `""`: fold(""), `" "`: fold(" "), `"` + all + `"`: fold(strings.ToLower(all)),
		`%i"X"`: fold("x"), `%I"X"`: fold("x"), `%i""`: fold(""), `%I""`: fold(""), `%i"` + all + `"`: fold(strings.ToLower(all)),
		`%s"X"`: nums(88), `%S"Xx"`: nums(88, 120), `%s""`: fold(""), `%S""`: fold(""), `%s"` + all + `"`: nums(bytes...), `%s" "`: nums(32),
		`";"`: fold(";"), `%s";x"`: nums(59, 120), `"%x41"`: fold("%x41"), `"a" "B"`: seq(fold("a"), fold("b")), `"/"/"/"`: alt(fold("/"), fold("/")),
	} {
		becomes(t, text, want)
	}
	for _, text := range []string{
		`"`, `"x`, `%s"x`, `%i"`, `%s`, `%i`, `%s x`, `%ix`, `%s"x"y`, `""""`, `"x""`, `"\""`, "\"\t\"", "\"\n\"", "\"x\n", "\"x\ny\"", "\"\r\"", "\"\x7f\"", "\"\x00\"", "\"\x1f\"", "\"\xc3\xa4\"",
		"\"\xff\"", "\"\x80\"", "%s\"\t\"", "%s\"\x7f\"", "%i\"\xc3\xa4\"", `% s"x"`, `%s "x"`, `%si"x"`, `%is"x"`, `%%s"x"`, `s"x"`, `i"x"`, `'x'`, `%q"x"`, `%x"41"`, `%"x"`, `%b"1"`,
	} {
		fails(t, "a = "+text, api.ErrForm)
	}
}

// C1: numbers in the three bases.
func TestNumbers(t *testing.T) {
	for text, want := range map[string]api.Expr{
		"%x41": nums(65), "%X41": nums(65), "%d65": nums(65), "%D65": nums(65), "%b1000001": nums(65), "%B1000001": nums(65), "%x0": nums(0), "%d0": nums(0), "%b0": nums(0),
		"%xabcde": nums(0xabcde), "%xABCDE": nums(0xabcde), "%xFeD": nums(0xfed), "%xfEd": nums(0xfed), "%d12345": nums(12345), "%d67890": nums(67890),
		"%x12345": nums(0x12345), "%x6789": nums(0x6789), "%x41.42": nums(65, 66), "%x1.2.3.4": nums(1, 2, 3, 4), "%d13.10": nums(13, 10), "%b1.0.11": nums(1, 0, 3), "%x0.0": nums(0, 0),
		"%x41-5A": span(65, 90), "%d0-1": span(0, 1), "%d5-5": span(5, 5), "%d5-6": span(5, 6), "%b10-11": span(2, 3), "%x0-10FFFF": span(0, greatest), "%D9-10": span(9, 10), "%xa-B": span(10, 11),
		"%x9-a": span(9, 10), "%d0-0": span(0, 0), "%d007-008": span(7, 8), "%x00041": nums(65), "%b0001.0010": nums(1, 2),
		"%xD800": nums(0xd800), "%xD800-DFFF": span(0xd800, 0xdfff), "%x80-FF": span(128, 255), "%d1 %d2": seq(nums(1), nums(2)), "%d1/%d2": alt(nums(1), nums(2)), "%xb1": nums(0xb1), "%xd1": nums(0xd1),
		"%x" + strings.Repeat("0", 30000) + "41": nums(65), "%b" + strings.Repeat("0", 30000) + "1-" + strings.Repeat("0", 10000) + "10": span(1, 2),
	} {
		becomes(t, text, want)
	}
	for _, text := range []string{
		"%", "%x", "%d", "%b", "%xg", "%da", "%b2", "%x-", "%x-1", "%x.1", "%x41-", "%x41.", "%x41..42", "%x41--42", "%x41.-42", "%x41-.42", "%x41-42-43", "%x41-42.43", "%x41.42-43", "%x41.42.",
		"%x41.42.g", "%d1a", "%d1.a", "%d1-a", "%b12", "%b1.2", "%b1-2", "%b101g", "%x41g", "%x41G", "%x 41", "%x41 .42", "%x41. 42", "%x41 - 42", "%x41 -42", "% x41", "%x+41", "%xx41", "%bx1", "%0x41",
		"%41", "x%41", "%o7", "%h41", "%u41", "%a1", "%c1", "%e1", "%w1", "%y1", "%%x41", "%x41%x42", "%x41\"x\"", "%x41(b)", "%x41,42", "%x41_", "%x41'", "%x\x0041", "%x-999999999", "%d5-4", "%d1-0",
		"%x10FFFF-10FFFE", "%b11-10", "%x5A-41", "%d0010-009", "%d1114111-0", "%d5-4.3", "b / %d5-4", "2%d5-4", "(%d5-4)", "%D2-1 c",
	} {
		fails(t, "a = "+text, api.ErrForm)
	}
}

// C1: how great the numbers in the three bases may be.
func TestGreatestNumbers(t *testing.T) {
	for letter, base := range map[string]int{"b": 2, "B": 2, "d": 10, "D": 10, "x": 16, "X": 16} {
		for _, zeros := range []string{"", "0", strings.Repeat("0", 5000)} {
			for _, n := range []int{greatest - 1, greatest, 65535, 65536} {
				digits := zeros + inBase(n, base)
				becomes(t, "%"+letter+digits, nums(n))
				becomes(t, "%"+letter+strings.ToUpper(digits), nums(n))
				becomes(t, "%"+letter+"1."+digits+"."+digits, nums(1, n, n))
				becomes(t, "%"+letter+"1-"+digits, span(1, n))
				becomes(t, "%"+letter+digits+"-"+digits, span(n, n))
			}
		}
		for _, digits := range []string{
			inBase(greatest+1, base), inBase(greatest+2, base), inBase(1<<21-1, base), inBase(1<<21, base), inBase(1<<31, base), inBase(1<<32, base), inBase(1<<32+65, base), inBase(1<<62, base),
			"1" + strings.Repeat("0", 64), "1" + strings.Repeat("0", 63) + "1", "1" + strings.Repeat("0", 128), "1" + strings.Repeat("0", 40000), strings.Repeat("1", 40000),
			strings.Repeat("0", 5000) + inBase(greatest+1, base),
		} {
			for _, text := range []string{"#", "1.#", "1.0.#", "#.1", "#-1", "0-#", "#-#", "#.", "#-", "#)", "#g", "#.#", "1.#.", "1-#.", "1.#-"} {
				fails(t, "a = %"+letter+strings.ReplaceAll(text, "#", digits), api.ErrLong)
			}
		}
	}
}

// inBase returns the digits of a number.
func inBase(n, base int) string {
	return fmt.Sprintf(map[int]string{2: "%b", 10: "%d", 16: "%x"}[base], n)
}

// C1: brackets of both kinds in one another.
func TestDepth(t *testing.T) {
	for name, kinds := range map[string]string{"round": "(", "square": "[", "both": "([", "more round": "[((", "count": "2(*["} {
		for _, depth := range []int{1, 2, 49, 50} {
			opening := strings.Repeat(kinds, 50)
			want := ref("b")
			text := "b"
			// The innermost bracket is the last one that stands ahead of b.
			for cut := depthPrefix(opening, depth); cut != ""; {
				cut, text, want = around(cut, text, want)
			}
			t.Run(fmt.Sprint(name, depth), func(t *testing.T) {
				becomes(t, text, want)
				becomes(t, text+" "+text+" / "+text, alt(seq(want, want), want))
			})
		}
		opening := depthPrefix(strings.Repeat(kinds, 51), 51)
		for _, rest := range []string{"", "b", ")", "\x00", " ", "(", "b)", strings.Repeat("(", 1000)} {
			fails(t, "a = "+opening+rest, api.ErrLong)
			fails(t, "a = b / c ("+depthPrefix(strings.Repeat(kinds, 50), 50)+rest, api.ErrLong)
		}
		fails(t, "a = "+depthPrefix(opening, 50), api.ErrForm)
		fails(t, "a = "+depthPrefix(opening, 50)+")", api.ErrForm)
		fails(t, "a = "+depthPrefix(opening, 50)+"\x00(", api.ErrForm)
	}
	becomes(t, strings.Repeat("(", 50)+"b"+strings.Repeat(") c", 50), around50(ref("b"), ref("c")))
	fails(t, "a = "+strings.Repeat("(", 100)+"b"+strings.Repeat(")", 100), api.ErrLong)
	fails(t, "a = "+strings.Repeat("(", 20000), api.ErrLong)
	fails(t, "a = "+strings.Repeat("( ", 51)+"b", api.ErrLong)
	fails(t, "a = "+strings.Repeat("(b / [c ", 26), api.ErrLong)
	fails(t, "a = "+strings.Repeat("(", 50)+strings.Repeat(")", 50), api.ErrForm)
	// The brackets of one rule are not in those of another one.
	fifty := "a = " + strings.Repeat("(", 50) + "b" + strings.Repeat(")", 50) + "\n"
	reads(t, fifty+fifty, lines(rule(ref("b")), rule(ref("b"))))
	becomes(t, strings.TrimSpace(strings.Repeat("(b) ", 200)), seq(slices.Repeat([]api.Expr{ref("b")}, 200)...))
}

// depthPrefix cuts opening brackets behind the one with the number depth.
func depthPrefix(opening string, depth int) string {
	for i := range len(opening) {
		if opening[i] == '(' || opening[i] == '[' {
			depth--
		}
		if depth == 0 {
			return opening[:i+1]
		}
	}
	return opening
}

// around closes the last opening bracket around a text, and puts into want what the bracket makes of it.
func around(opening, text string, want api.Expr) (string, string, api.Expr) {
	last := len(opening) - 1
	if opening[last] == '(' {
		text = "(" + text + ")"
	} else {
		text, want = "["+text+"]", rep(0, 1, want)
	}
	opening = opening[:last]
	for _, count := range []struct {
		text        string
		least, most int
	}{{"2", 2, 2}, {"*", 0, -1}} {
		if strings.HasSuffix(opening, count.text) {
			opening, text, want = opening[:len(opening)-1], count.text+text, rep(count.least, count.most, want)
		}
	}
	return opening, text, want
}

func around50(e, next api.Expr) api.Expr {
	for range 50 {
		e = seq(e, next)
	}
	return e
}

// C1: of several errors the leftmost one is told.
func TestLeftmostError(t *testing.T) {
	forms := []string{"3*2b", "%d5-4", ")", "]", "(b=", "\"b", "%q", "2 b", "%x", "=", "\x00", "%s", "b c)", "(b]", "3*2(b)", "b //", "\xff", "b\rc", "*2", "%b1.2"}
	longs := []string{
		"201b", "*201b", "201", "%x110000", "%d1.1114112", "%b1-111111111111111111111", strings.Repeat("(", 51), strings.Repeat("[", 51), strings.Repeat("q", 41), "3*2(201b)", "3*2%x110000",
		"3*201b", "201*b", "(b %d1114112", "[b / c d 201", "3*2" + strings.Repeat("(", 51), "%d1114112-5", "%d1114112-5)",
	}
	for _, form := range forms {
		for _, long := range longs {
			for _, between := range []string{" ", " / ", "\n ", "\n", ";\nb = c\n", " ("} {
				fails(t, "a = "+form+between+long, api.ErrForm)
				fails(t, "a = "+long+between+form, api.ErrLong)
				fails(t, "a = "+long+form, api.ErrLong)
			}
		}
	}
	fails(t, " "+strings.Repeat("a", 41)+" = b", api.ErrForm)
	fails(t, "a "+strings.Repeat("a", 41)+" = b", api.ErrForm)
	fails(t, "a = b\n1\na = 201b", api.ErrForm)
}

// either returns the rules of a text, or those that it has otherwise; nil stands for ErrForm.
func either(ok bool, l, otherwise []api.Line) []api.Line {
	if ok {
		return l
	}
	return otherwise
}

// C1: any byte at any place of a text.
func TestBytes(t *testing.T) {
	none := []api.Line{}
	b, c := ref("b"), ref("c")
	for i := range 256 {
		s := string([]byte{byte(i)})
		low := s
		if i >= 'A' && i <= 'Z' {
			low = string([]byte{byte(i + 32)})
		}
		blank := i == 32 || i == 9
		letter := i >= 'a' && i <= 'z' || i >= 'A' && i <= 'Z'
		decimal := i >= '0' && i <= '9'
		seen := i >= 32 && i <= 126
		hexadecimal := strings.Index("0123456789abcdef", low)
		for text, want := range map[string][]api.Line{
			s:                          either(blank || i == 10 || i == ';', none, nil),
			s + " = b":                 either(letter, lines(api.Line{Name: low, Expr: b}), either(i == ';', none, nil)),
			"a" + s + "c = b":          either(letter || decimal || i == '-', lines(api.Line{Name: "a" + low + "c", Expr: b}), nil),
			"a = " + s:                 either(letter, lines(rule(ref(low))), nil),
			"a = c" + s:                either(letter || decimal || i == '-', lines(rule(ref("c"+low))), either(blank || i == 10 || i == ';', lines(rule(c)), nil)),
			"a = \"b" + s + "c\"":      either(seen && i != '"', lines(rule(fold("b"+low+"c"))), nil),
			"a = %s\"b" + s + "c\"":    either(seen && i != '"', lines(rule(nums('b', i, 'c'))), nil),
			"a = b;" + s + "\n":        either(seen || i == 9 || i == 10 || i == 13, lines(rule(b)), nil),
			"a = b;" + s + "c = d":     either(seen || i == 9, lines(rule(b)), either(i == 10, lines(rule(b), api.Line{Name: "c", Expr: ref("d")}), nil)),
			"a = b;" + s + "\n c":      either(seen || i == 9 || i == 13, lines(rule(seq(b, c))), nil),
			";" + s:                    either(seen || i == 9 || i == 10, none, nil),
			"a = (b)" + s + "(c)":      either(blank, lines(rule(seq(b, c))), either(i == ';', lines(rule(b)), either(i == '/', lines(rule(alt(b, c))), nil))),
			"a = (b)\n" + s + "(c)":    either(blank, lines(rule(seq(b, c))), either(i == ';', lines(rule(b)), nil)),
			"a = (b)\n" + s + "= c":    either(letter, lines(rule(b), api.Line{Name: low, Expr: c}), either(i == ';', lines(rule(b)), nil)),
			"a = (b" + s + ")":         either(blank, lines(rule(b)), either(letter || decimal || i == '-', lines(rule(ref("b"+low))), nil)),
			"a = (" + s + "\"b\")":     either(blank, lines(rule(fold("b"))), either(i == '*', lines(rule(rep(0, -1, fold("b")))), either(decimal, lines(rule(rep(i-48, i-48, fold("b")))), nil))),
			"a = [b" + s + "]":         either(blank, lines(rule(rep(0, 1, b))), either(letter || decimal || i == '-', lines(rule(rep(0, 1, ref("b"+low)))), nil)),
			"a = %x" + s:               either(hexadecimal >= 0, lines(rule(nums(hexadecimal))), nil),
			"a = %d" + s:               either(decimal, lines(rule(nums(i-48))), nil),
			"a = %b" + s:               either(i == 48 || i == 49, lines(rule(nums(i-48))), nil),
			"a = %d7" + s + "8":        either(decimal, lines(rule(nums(708+10*(i-48)))), either(i == '-', lines(rule(span(7, 8))), either(i == '.', lines(rule(nums(7, 8))), either(i == ';', lines(rule(nums(7))), nil)))),
			"a = %" + s + "10":         either(low == "b", lines(rule(nums(2))), either(low == "d", lines(rule(nums(10))), either(low == "x", lines(rule(nums(16))), nil))),
			"a = %" + s + "\"Q\"":      either(low == "i", lines(rule(fold("q"))), either(low == "s", lines(rule(nums(81))), nil)),
			"a = 1" + s + "2\"b\"":     either(decimal, lines(rule(rep(102+10*(i-48), 102+10*(i-48), fold("b")))), either(i == '*', lines(rule(rep(1, 2, fold("b")))), nil)),
			"a = 1" + s + "(b)":        either(decimal, lines(rule(rep(i-38, i-38, b))), either(i == '*', lines(rule(rep(1, -1, b))), nil)),
			"a =" + s + "(b)":          either(blank, lines(rule(b)), either(i == '*', lines(rule(rep(0, -1, b))), either(decimal, lines(rule(rep(i-48, i-48, b))), either(i == '/', lines(api.Line{Name: "a", More: true, Expr: b}), nil)))),
			"a" + s + "= b":            either(letter || decimal || i == '-', lines(api.Line{Name: "a" + low, Expr: b}), either(blank, lines(rule(b)), nil)),
			"a = b" + s + "\nc = \"\"": either(blank || i == 10 || i == 13 || i == ';', lines(rule(b), api.Line{Name: "c", Expr: fold("")}), either(letter || decimal || i == '-', lines(rule(ref("b"+low)), api.Line{Name: "c", Expr: fold("")}), nil)),
		} {
			if want == nil {
				fails(t, text, api.ErrForm)
			} else {
				reads(t, text, want)
			}
		}
	}
}
