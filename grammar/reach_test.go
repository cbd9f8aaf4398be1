package grammar_test

import (
	"fmt"
	"slices"
	"strings"
	"testing"

	"reglet/api"
	"reglet/grammar"
)

// E4: names that are reached, in the order in which they are.
func TestReach(t *testing.T) {
	text := `a = b c b | b = "x" c | c = *"y" | d = a`
	reaches(t, text, "a", "a b c")
	reaches(t, text, "b", "b c")
	reaches(t, text, "c", "c")
	reaches(t, text, "d", "d a b c")
	// All names of a rule come ahead of those that they bring in.
	reaches(t, `a = b c | b = d | c = e | d = f | e = "x" | f = "y" | g = a`, "a", "a b c d e f")
	reaches(t, `a = b c | b = d | c = e | d = f | e = "x" | f = "y" | g = a`, "g", "g a b c d e f")
	reaches(t, `f = "x" | e = f | d = e | c = d | b = c | a = c b`, "a", "a c b d e f")
	reaches(t, `a = c b a | b = d c | c = d | d = b e | e = "x"`, "a", "a c b d e")
	// It is the expression's order, however deep a name is in it.
	reaches(t, `a = 2[d "x" (c / *b)] / e | b = "x" | c = "x" | d = "x" | e = "x"`, "a", "a d c b e")
	reaches(t, `a = 0b | b = 0*0c | c = ""`, "a", "a b c")
	// Neither do the places of the rules matter, nor rules that nothing reaches.
	reaches(t, `z = a | c = "x" | b = c | y = z | a = b | x = none`, "a", "a b c")
}

// E4: rules that come back to themselves.
func TestReachRound(t *testing.T) {
	reaches(t, "a = a", "a", "a")
	reaches(t, "a = a a / [a]", "a", "a")
	reaches(t, `a = "x" a`, "a", "a")
	reaches(t, "a = b | b = a", "a", "a b")
	reaches(t, "a = b | b = a", "b", "b a")
	reaches(t, "a = b a | b = a b", "a", "a b")
	reaches(t, "a = a b | b = b a", "b", "b a")
	reaches(t, "a = b | b = c | c = a", "c", "c a b")
	reaches(t, "a = b c | b = a c | c = a b c", "c", "c a b")
	reaches(t, "a = b | b = b", "a", "a b")
}

// E4: a name that no rule has reaches nothing, not even itself.
func TestReachNothing(t *testing.T) {
	for _, text := range []string{"", `a = "x"`, "a = b", "a = b c | c = b", "b-1 = b | ab = b"} {
		for _, name := range []string{"b", "", "A", "x", "digit", " a", "a ", "a\x00", "b-"} {
			reaches(t, text, name, "")
		}
	}
	reaches(t, `a = "x"`, "a", "a")
	if got := grammar.Reach(nil, ""); len(got) != 0 {
		t.Errorf("reached %q", got)
	}
	if got := grammar.Reach([]api.Rule{rule("a", fold(""))}[:0], "a"); len(got) != 0 {
		t.Errorf("reached %q", got)
	}
}

// E4: names that no rule has are reached all the same, each once, and bring in nothing.
func TestReachNamesWithoutRules(t *testing.T) {
	reaches(t, "a = b", "a", "a b")
	reaches(t, "a = b b c b", "a", "a b c")
	reaches(t, "a = b c d | c = e b a | e = d f", "a", "a b c d e f")
	reaches(t, "a = digit hexdig", "a", "a digit hexdig")
	reaches(t, "a = crlf b | b = digit / lf", "a", "a crlf b digit lf")
	reaches(t, "a = b | c = d", "a", "a b")
}

// E4: of rules with one name the first one counts.
func TestReachTwice(t *testing.T) {
	reaches(t, "a = b | a = c", "a", "a b")
	reaches(t, "a = c | a = b | a = d", "a", "a c")
	reaches(t, `a = b | b = c | b = d | c = "x" | d = "x"`, "a", "a b c")
	reaches(t, `b = "x" | a = b | b = c`, "a", "a b")
	reaches(t, `a = b | b = b | a = c | b = a c`, "a", "a b")
	reaches(t, `a = "x" | a = a b`, "a", "a")
}

// E4: the core rules.
func TestReachCore(t *testing.T) {
	needs := coreNeeds()
	for _, r := range grammar.Core() {
		got := grammar.Reach(grammar.Core(), r.Name)
		if want := strings.Fields(r.Name + " " + needs[r.Name]); !slices.Equal(got, want) {
			t.Errorf("%s reaches %q, want %q", r.Name, got, want)
		}
	}
}

// E4: rules need not be valid, and neither need names.
func TestReachOfWrong(t *testing.T) {
	g := []api.Rule{rule("", seq(ref("A"), ref(""), api.Expr{Kind: 9, Kids: []api.Expr{ref("b c")}})), rule("A", rep(2, 1)), rule("A", ref("none")), rule("b c", alt(ref("\xff"))), rule("\xff", api.Expr{})}
	for name, want := range map[string][]string{"": {"", "A", "b c", "\xff"}, "A": {"A"}, "b c": {"b c", "\xff"}, "\xff": {"\xff"}, "none": nil, "a": nil} {
		if got := grammar.Reach(g, name); !slices.Equal(got, want) {
			t.Errorf("%q: %q, want %q", name, got, want)
		}
	}
}

// E4: many rules, in a row and all at once.
func TestReachMany(t *testing.T) {
	const n = 20000
	name := func(i int) string { return fmt.Sprint("n", i) }
	row := make([]api.Rule, n)
	var all []api.Expr
	var names []string
	for i := range row {
		row[i] = rule(name(i), option(seq(ref(name(i+1)), ref(name(i/2)))))
		all = append(all, ref(name(i)))
		names = append(names, name(i))
	}
	got := grammar.Reach(row, "n0")
	if !slices.Equal(got, append(slices.Clip(names), name(n))) {
		t.Errorf("reached %s", short(got))
	}
	wide := append([]api.Rule{rule("a", alt(slices.Concat(all, all)...))}, row...)
	if got := grammar.Reach(wide, "a"); !slices.Equal(got, slices.Concat([]string{"a"}, names, []string{name(n)})) {
		t.Errorf("reached %s", short(got))
	}
}
