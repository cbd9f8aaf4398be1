package grammar_test

import (
	"fmt"
	"slices"
	"strings"
	"testing"

	"reglet/api"
	"reglet/grammar"
)

// E3: the example of the chapter, and others like it.
func TestJoin(t *testing.T) {
	joins(t, `a = "x" | a =/ digit`, `a = "x" / digit | digit = %x30-39`)
	joins(t, `a = "x"`, `a = "x"`)
	joins(t, "a = a", "a = a")
	joins(t, "a = b | b = a", "a = b | b = a")
	joins(t, "b = a | a = b", "b = a | a = b")
	joins(t, `A = B c | C = "x" | b = %s"Y"`, `a = b c | c = "x" | b = %x59`)
	joins(t, `c = 2[a / *b] | a = "x" | b = c`, `c = 2([a / *b]) | a = "x" | b = c`)
	joins(t, "a = *digit *alpha | b = a", "a = *digit *alpha | b = a | digit = %x30-39 | alpha = %x41-5A / %x61-7A")
}

// E3: no rules make none.
func TestJoinNothing(t *testing.T) {
	for _, l := range [][]api.Line{nil, {}, make([]api.Line, 0, 5), wrongLines()[:0]} {
		makes(t, l, nil)
	}
}

// E3: where a rule with More may stand, and where its alternatives come to stand.
func TestMore(t *testing.T) {
	joins(t, `a = "x" | a =/ "y"`, `a = "x" / "y"`)
	joins(t, `a = "x" | a =/ "y" | a =/ "z"`, `a = "x" / "y" / "z"`)
	joins(t, `a = "x" | b = a | a =/ "y" | c = b | a =/ "z"`, `a = "x" / "y" / "z" | b = a | c = b`)
	joins(t, `a = "x" | b = "y" | b =/ a | a =/ b | b =/ "z"`, `a = "x" / b | b = "y" / a / "z"`)
	joins(t, `a = "x" | a =/ "x" | a =/ "x"`, `a = "x" / "x" / "x"`)
	joins(t, `a = "x" / "y" | a =/ "z"`, `a = "x" / "y" / "z"`)
	joins(t, `a = "x" | a =/ "y" / "z"`, `a = "x" / "y" / "z"`)
	joins(t, `a = "x" / "w" | a =/ "y" / "z" | a =/ "v"`, `a = "x" / "w" / "y" / "z" / "v"`)
	joins(t, `a = "x" | a =/ a`, `a = "x" / a`)
	joins(t, `b = "x" | a = b | A =/ "y"`, `b = "x" | a = b / "y"`)
	// Names of what was added count, and come behind those of what was there.
	joins(t, `a = lf | b = sp | a =/ cr b`, `a = lf / cr b | b = sp | lf = %x0A | cr = %x0D | sp = %x20`)
}

// E3: a rule with More that has no rule ahead of it.
func TestMoreAlone(t *testing.T) {
	for _, text := range []string{
		`a =/ "x"`, `a =/ "x" | a = "y"`, `a =/ "x" | a =/ "y"`, `a =/ "x" | a = "y" | a =/ "z"`, `b = "x" | a =/ "y"`, `b = "x" | a =/ "y" | a = "z"`, `b = "x" | c = "y" | a =/ b`, `a = b | b =/ "x"`,
		`ab = "x" | a =/ "y"`, `a = "x" | ab =/ "y"`, `a = "x" | a-1 =/ "y"`, `a = "x" | a =/ "y" | b =/ "z"`, `a =/ a`, `a = "x" / "y" | b =/ "x" / "y"`,
		// A core rule is none that is there.
		`digit =/ "x"`, `a = digit | digit =/ "x"`, `digit =/ "x" | a = digit`, `a = hexdig | digit =/ "x"`,
	} {
		refuses(t, text, api.ErrTwice)
	}
}

// E3: a rule without More whose name is there.
func TestTwice(t *testing.T) {
	for _, text := range []string{
		`a = "x" | a = "y"`, `a = "x" | a = "x"`, `a = a | a = a`, `a = "x" | b = "y" | a = "z"`, `b = "x" | a = "y" | a = "z"`, `b = "x" | a = "y" | c = b | a = "z" | d = c`, `a = "x" | a =/ "y" | a = "z"`,
		`a = "x" | A = "y"`, `a = "x" | a = "y" | a =/ "z"`, `a = "x" | b = "y" | b = "z"`, `a = "x" | a = "y" | a = "z"`, `digit = "x" | digit = "y"`, `digit = %x30-39 | a = digit | digit = %x30-39`, `x-1 = "x" | X-1 = "y"`,
	} {
		refuses(t, text, api.ErrTwice)
	}
	var l []api.Line
	for i := range 100 {
		l = append(l, line(fmt.Sprint("n", i), fold("x")))
	}
	for i := range l {
		fails(t, append(slices.Clip(l), line(l[i].Name, fold("y"))), api.ErrTwice)
		fails(t, slices.Insert(slices.Clip(l), 0, more(l[i].Name, fold("y"))), api.ErrTwice)
		if i > 0 {
			fails(t, slices.Insert(slices.Clip(l), i, more(l[i].Name, fold("y"))), api.ErrTwice)
		}
	}
}

// mergeable returns expressions, and the alternatives of each.
func mergeable() (all []api.Expr, alternatives [][]api.Expr) {
	x, y, n := fold("x"), ref("n"), nums(48, 49)
	for _, e := range []api.Expr{y, x, fold(""), n, span(48, 57), seq(x, y), seq(alt(x, y), n), seq(seq(x, n), y), option(x), option(alt(x, y)), rep(2, 3, alt(n, x)), rep(0, -1, seq(y, x)), option(option(x))} {
		all, alternatives = append(all, e), append(alternatives, []api.Expr{e})
	}
	for _, kids := range [][]api.Expr{{x, y}, {y, x}, {x, x}, {x, y, n, x, y}, {alt(x, y), n}, {n, alt(x, y)}, {alt(x, y), alt(n, x)}, {alt(alt(x, y), n), x}, {seq(x, y), n}, {option(alt(x, y)), alt(x, seq(alt(y, n), x))}, {fold(""), x}} {
		all, alternatives = append(all, alt(kids...)), append(alternatives, kids)
	}
	return all, alternatives
}

// E3: each pair of an Alt and another expression; an Alt within an Alt stays as it is.
func TestMergedPairs(t *testing.T) {
	all, alternatives := mergeable()
	last := rule("n", fold("n"))
	for i, one := range all {
		makes(t, []api.Line{line("a", one), line("n", last.Expr)}, []api.Rule{rule("a", one), last})
		for j, two := range all {
			merged := alt(slices.Concat(alternatives[i], alternatives[j])...)
			makes(t, []api.Line{line("a", one), more("a", two), line("n", last.Expr)}, []api.Rule{rule("a", merged), last})
			makes(t, []api.Line{line("n", last.Expr), line("a", one), line("b", two), more("a", two), more("b", one)}, []api.Rule{last, rule("a", merged), rule("b", alt(slices.Concat(alternatives[j], alternatives[i])...))})
			for k, three := range all {
				merged := alt(slices.Concat(alternatives[i], alternatives[j], alternatives[k])...)
				makes(t, []api.Line{line("a", one), more("a", two), line("n", last.Expr), more("a", three)}, []api.Rule{rule("a", merged), last})
			}
		}
	}
	joins(t, `a = ("x" / "y") / "z" | a =/ ("v" / "w")`, `a = ("x" / "y") / "z" / "v" / "w"`)
	joins(t, `a = ("x" / "y") | a =/ "z" / ("v" / "w")`, `a = "x" / "y" / "z" / ("v" / "w")`)
	joins(t, `a = "x" ("y" / "z") | a =/ ["v" / "w"]`, `a = "x" ("y" / "z") / ["v" / "w"]`)
}

// E3: many rules, and many alternatives.
func TestJoinMany(t *testing.T) {
	var l []api.Line
	var g []api.Rule
	for i := range 20000 {
		name := fmt.Sprint("n", i)
		e := seq(ref(fmt.Sprint("n", (i*7+1)%20000)), fold("x"))
		l, g = append(l, line(name, e)), append(g, rule(name, e))
	}
	makes(t, l, g)
	kids := []api.Expr{ref("a")}
	l = []api.Line{line("a", ref("a"))}
	for i := range 20000 {
		e := fold(strings.Repeat("x", i%9))
		kids = append(kids, e)
		l = append(l, more("a", e))
	}
	makes(t, l, []api.Rule{rule("a", alt(kids...))})
}

// E3: a name that the grammar gives itself is no core rule's.
func TestOwnCoreRule(t *testing.T) {
	joins(t, `digit = "d" | a = digit`, `digit = "d" | a = digit`)
	joins(t, `a = digit | digit = "d"`, `a = digit | digit = "d"`)
	joins(t, `a = hexdig | digit = "d"`, `a = hexdig | digit = "d" | hexdig = digit / "a" / "b" / "c" / "d" / "e" / "f"`)
	joins(t, `digit = %x30-39 | digit =/ "x"`, `digit = %x30-39 / "x"`)
	joins(t, `DIGIT = alpha | a = hexdig DIGIT`, `digit = alpha | a = hexdig digit | alpha = %x41-5A / %x61-7A | hexdig = digit / "a" / "b" / "c" / "d" / "e" / "f"`)
	joins(t, `wsp = "w" | a = lwsp`, `wsp = "w" | a = lwsp | lwsp = *(wsp / crlf wsp) | crlf = cr lf | cr = %x0D | lf = %x0A`)
	joins(t, `a = lwsp | crlf = lf`, `a = lwsp | crlf = lf | lwsp = *(wsp / crlf wsp) | lf = %x0A | wsp = sp / htab | sp = %x20 | htab = %x09`)
	joins(t, `sp = htab | htab = sp | a = wsp`, `sp = htab | htab = sp | a = wsp | wsp = sp / htab`)
	for _, r := range grammar.Core() {
		own := []api.Rule{rule("a", ref(r.Name)), rule(r.Name, fold("own"))}
		makes(t, asLines(own), own)
		own[0], own[1] = own[1], own[0]
		makes(t, asLines(own), own)
		makes(t, asLines(own[:1]), own[:1])
		fails(t, []api.Line{more(own[0].Name, own[0].Expr)}, api.ErrTwice)
	}
}

// E3: core rules bring in others, each once and at its place.
func TestCoreByWayOfOthers(t *testing.T) {
	joins(t, "a = crlf", "a = crlf | crlf = cr lf | cr = %x0D | lf = %x0A")
	joins(t, "a = lwsp", "a = lwsp | lwsp = *(wsp / crlf wsp) | wsp = sp / htab | crlf = cr lf | sp = %x20 | htab = %x09 | cr = %x0D | lf = %x0A")
	joins(t, "a = lf crlf", "a = lf crlf | lf = %x0A | crlf = cr lf | cr = %x0D")
	joins(t, "a = crlf lf", "a = crlf lf | crlf = cr lf | lf = %x0A | cr = %x0D")
	joins(t, "a = htab lwsp lf", "a = htab lwsp lf | htab = %x09 | lwsp = *(wsp / crlf wsp) | lf = %x0A | wsp = sp / htab | crlf = cr lf | sp = %x20 | cr = %x0D")
	joins(t, `a = b digit | b = hexdig digit | c = bit`, `a = b digit | b = hexdig digit | c = bit | digit = %x30-39 | hexdig = digit / "a" / "b" / "c" / "d" / "e" / "f" | bit = "0" / "1"`)
	joins(t, "a = b | b = sp b sp cr | c = wsp", "a = b | b = sp b sp cr | c = wsp | sp = %x20 | cr = %x0D | wsp = sp / htab | htab = %x09")
	joins(t, "a = wsp crlf | b = crlf wsp lwsp", "a = wsp crlf | b = crlf wsp lwsp | wsp = sp / htab | crlf = cr lf | lwsp = *(wsp / crlf wsp) | sp = %x20 | htab = %x09 | cr = %x0D | lf = %x0A")
	joins(t, "a = octet octet | b = octet / vchar | a =/ char", "a = octet octet / char | b = octet / vchar | octet = %x00-FF | char = %x01-7F | vchar = %x21-7E")
	joins(t, `a = 2(dquote *["x" ctl]) / ALPHA`, `a = 2(dquote *(["x" ctl])) / alpha | dquote = %x22 | ctl = %x00-1F / %x7F | alpha = %x41-5A / %x61-7A`)
}

// E3: names that no rule has, wherever they are.
func TestNoRule(t *testing.T) {
	for _, text := range []string{
		"a = b", "a = a b", "a = b a", "a = a / b", `a = "x" | b = c`, `a = "x" | b = a | c = b d`, "a = b | b = c", "a = digit b", "a = b digit", "a = b | c = digit", "a = digit | c = b", "a = lwsp | c = b", "a = b hexdig b", `a = "x" | c = b digit`, `a = "x" | c = digit b`, `a = "x" | c = a b lwsp a`, `a = "x" | c = a lwsp b`, `a = "x" | c = a | c =/ sp b`, `a = "x" | c = a | c =/ b sp`,
		`a = "x" | a =/ b`, `a = b | a =/ "x"`, "a = 0b", "a = *b", `a = ["x" ("y" / *2("z" [b]))]`, "a = core", "a = digi", "a = digits", "a = digit-", "a = d", "a = alpha1", "a = lwsp-", "a = x-1", `digit = b`, "digit = b | a = digit",
		`a = hexdig | digit = c`, "a = crlf | lf = nl", "a = " + strings.Repeat("n", 40),
	} {
		refuses(t, text, api.ErrName)
	}
	// As long as it is there, it doesn't matter where.
	joins(t, "a = b | b = c | c = d | d = a", "a = b | b = c | c = d | d = a")
}

// E3: of several errors the first one of the promise is told, wherever they are.
func TestErrorsTogether(t *testing.T) {
	twice := [][]string{{`a = "x"`, `a = "y"`}, {`a =/ "x"`}, {`a =/ "x"`, `a = "y"`}, {`a = "x"`, `a =/ "y"`, `a = "z"`}, {`digit =/ "x"`}}
	for _, lines := range twice {
		own := read(t, strings.Join(lines, " | "))
		for at := range len(own) + 1 {
			// ErrTwice comes ahead of ErrName.
			for _, name := range []string{"c = d", "c = c d digit", `c = d e`} {
				fails(t, slices.Insert(slices.Clone(own), at, read(t, name)...), api.ErrTwice)
			}
			// What is not valid comes ahead of both.
			for _, wrong := range wrongLines() {
				fails(t, slices.Insert(slices.Clone(own), at, wrong), api.ErrArg)
				fails(t, slices.Insert(slices.Clone(own), at, wrong, line("c", ref("d"))), api.ErrArg)
				fails(t, slices.Insert(slices.Clone(own), at, line("c", ref("d")), wrong), api.ErrArg)
			}
		}
	}
	refuses(t, "a = b | a = c", api.ErrTwice)
	refuses(t, "a =/ b", api.ErrTwice)
	refuses(t, "a = b | c =/ a", api.ErrTwice)
	for _, wrong := range wrongLines() {
		fails(t, []api.Line{wrong, line("c", ref("d"))}, api.ErrArg)
		fails(t, []api.Line{line("c", ref("d")), wrong}, api.ErrArg)
	}
}

// wrongLines returns rules of which each has one thing that is not valid.
func wrongLines() []api.Line {
	b := fold("b")
	return []api.Line{
		{}, {Name: "w"}, {Expr: b}, line("W", b), more("", b), line("1", b), line(strings.Repeat("w", 41), b), line("w w", b), line("w", ref("W")), line("w", ref("")), line("w", ref(strings.Repeat("w", 41))),
		line("w", alt(b)), line("w", alt()), line("w", seq(b)), line("w", seq(b, fold("\""))), line("w", fold("B")), line("w", option(api.Expr{})), more("w", rep(2, 1, b)), line("w", rep(0, -2, b)), line("w", rep(0, 201, b)),
		line("w", rep(2, 2)), line("w", rep(2, 2, b, b)), line("w", nums()), line("w", nums(-1)), line("w", nums(greatest+1)), line("w", nums(make([]int, 10001)...)), line("w", span(2, 1)), line("w", api.Expr{Kind: 7, N: []int{1}}),
		line("w", deep(b, 51, option)), line("w", deep(b, 100000, option)), {Name: "w", Expr: api.Expr{Kind: 8}}, {Name: "w", Expr: api.Expr{Kind: 4, Text: "w", Max: 1}}, line("w", alt(b, api.Expr{Kind: 5, Text: "b", Kids: []api.Expr{b}})),
	}
}

// E3: of rules of which one is not valid nothing is made.
func TestWrongLines(t *testing.T) {
	right := read(t, `a = b digit | b = "x" | a =/ *b | c = crlf`)
	for _, wrong := range wrongLines() {
		fails(t, []api.Line{wrong}, api.ErrArg)
		fails(t, []api.Line{wrong, wrong}, api.ErrArg)
		for at := range len(right) + 1 {
			fails(t, slices.Insert(slices.Clone(right), at, wrong), api.ErrArg)
		}
		fails(t, []api.Line{line(wrong.Name, fold("x")), {Name: wrong.Name, More: true, Expr: wrong.Expr}}, api.ErrArg)
	}
}

// E3: how deep an expression may be, and that one may become deeper when it is merged.
func TestDeepest(t *testing.T) {
	for depth := range 52 {
		e := deep(fold("x"), depth, option)
		if depth == 51 {
			fails(t, []api.Line{line("a", e)}, api.ErrArg)
			fails(t, []api.Line{line("a", fold("x")), more("a", e)}, api.ErrArg)
			continue
		}
		makes(t, []api.Line{line("a", e)}, []api.Rule{rule("a", e)})
		makes(t, []api.Line{line("a", e), more("a", ref("a"))}, []api.Rule{rule("a", alt(e, ref("a")))})
		makes(t, []api.Line{line("a", ref("a")), more("a", e)}, []api.Rule{rule("a", alt(ref("a"), e))})
	}
	e := deep(seq(ref("sp"), ref("none")), 49, option)
	fails(t, []api.Line{line("a", e)}, api.ErrName)
	fails(t, []api.Line{line("a", e), more("a", e)}, api.ErrName)
	e = deep(seq(ref("sp"), ref("a")), 49, option)
	makes(t, []api.Line{line("a", e), more("a", e)}, []api.Rule{rule("a", alt(e, e)), rule("sp", nums(32))})
}
