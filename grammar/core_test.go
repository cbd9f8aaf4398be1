package grammar_test

import (
	"slices"
	"strings"
	"testing"

	"reglet/api"
	"reglet/grammar"
)

// coreRules returns the core rules as the chapter has them, written out.
func coreRules() []api.Rule {
	return []api.Rule{
		rule("alpha", alt(span(65, 90), span(97, 122))),
		rule("bit", alt(fold("0"), fold("1"))),
		rule("char", span(1, 127)),
		rule("cr", nums(13)),
		rule("crlf", seq(ref("cr"), ref("lf"))),
		rule("ctl", alt(span(0, 31), nums(127))),
		rule("digit", span(48, 57)),
		rule("dquote", nums(34)),
		rule("hexdig", alt(ref("digit"), fold("a"), fold("b"), fold("c"), fold("d"), fold("e"), fold("f"))),
		rule("htab", nums(9)),
		rule("lf", nums(10)),
		rule("lwsp", rep(0, -1, alt(ref("wsp"), seq(ref("crlf"), ref("wsp"))))),
		rule("octet", span(0, 255)),
		rule("sp", nums(32)),
		rule("vchar", span(33, 126)),
		rule("wsp", alt(ref("sp"), ref("htab"))),
	}
}

// coreNeeds returns for each core rule the names of the core rules that come behind it when it is the only one that is named.
func coreNeeds() map[string]string {
	return map[string]string{"crlf": "cr lf", "hexdig": "digit", "lwsp": "wsp crlf sp htab cr lf", "wsp": "sp htab"}
}

// E1: the core rules, in their order.
func TestCore(t *testing.T) {
	got, want := grammar.Core(), coreRules()
	if len(got) != 16 {
		t.Fatalf("%d core rules", len(got))
	}
	for i, r := range want {
		if !sameRule(got[i], r) {
			t.Errorf("core rule %d is %s, want %s", i, short(got[i]), short(r))
		}
	}
}

// E1: the core rules are those that the reader makes of the chapter's texts.
func TestCoreTexts(t *testing.T) {
	texts := []string{
		"alpha = %x41-5A / %x61-7A", `bit = "0" / "1"`, "char = %x01-7F", "cr = %x0D", "crlf = cr lf", "ctl = %x00-1F / %x7F", "digit = %x30-39", "dquote = %x22",
		`hexdig = digit / "a" / "b" / "c" / "d" / "e" / "f"`, "htab = %x09", "lf = %x0A", "lwsp = *(wsp / crlf wsp)", "octet = %x00-FF", "sp = %x20", "vchar = %x21-7E", "wsp = sp / htab",
	}
	got := grammar.Core()
	for i, text := range texts {
		if l := read(t, text); len(l) != 1 || l[0].More || !sameRule(got[i], rule(l[0].Name, l[0].Expr)) {
			t.Errorf("core rule %d is %s, want %s", i, short(got[i]), text)
		}
		if told := asText(got[i : i+1]); told != text {
			t.Errorf("core rule %d is told as %q, want %q", i, told, text)
		}
	}
	if told := asText(got); told != strings.Join(texts, " | ") {
		t.Errorf("the core rules are told as %q", told)
	}
}

// E1, E3: each core rule by itself is brought in where it is named, with what it needs.
func TestEachCoreRule(t *testing.T) {
	needs, core := coreNeeds(), coreRules()
	for _, one := range core {
		want := []api.Rule{rule("a", ref(one.Name)), one}
		for _, name := range strings.Fields(needs[one.Name]) {
			want = append(want, core[slices.IndexFunc(core, func(r api.Rule) bool { return r.Name == name })])
		}
		makes(t, []api.Line{line("a", ref(one.Name))}, want)
		want[0].Expr = seq(ref(one.Name), ref("a"), ref(one.Name))
		makes(t, []api.Line{line("a", want[0].Expr)}, want)
	}
}

// E1: the core rules need nothing but one another, and are joined as they are.
func TestCoreJoined(t *testing.T) {
	makes(t, asLines(grammar.Core()), coreRules())
	backwards := coreRules()
	slices.Reverse(backwards)
	makes(t, asLines(backwards), backwards)
}

// spoil writes into all the memory that rules have.
func spoil(g []api.Rule) {
	for i := range g {
		spoilExpr(&g[i].Expr)
		g[i] = api.Rule{Name: "spoilt"}
	}
}

func spoilExpr(e *api.Expr) {
	for i := range e.N {
		e.N[i] = -9
	}
	for i := range e.Kids {
		spoilExpr(&e.Kids[i])
		e.Kids[i] = fold("SPOILT")
	}
}

// E1, R4: whoever writes into the core rules changes no later answer.
func TestCoreAnew(t *testing.T) {
	ahead := grammar.Core()
	spoil(grammar.Core())
	joined, _ := grammar.Join([]api.Line{line("a", seq(ref("lwsp"), ref("hexdig"), ref("alpha")))})
	spoil(joined)
	again := grammar.Core()
	if !slices.EqualFunc(again, coreRules(), sameRule) || !slices.EqualFunc(ahead, coreRules(), sameRule) {
		t.Errorf("the core rules have changed to %s", short(again))
	}
	makes(t, []api.Line{line("a", ref("hexdig"))}, []api.Rule{rule("a", ref("hexdig")), coreRules()[8], coreRules()[6]})
	for i := range 10 {
		again[0].Name = strings.Repeat("x", i)
		if core := grammar.Core(); core[0].Name != "alpha" {
			t.Errorf("the first core rule is %s", core[0].Name)
		}
	}
}
