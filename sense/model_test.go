package sense_test

import (
	"maps"
	"math/rand/v2"
	"slices"
	"strings"
	"testing"
	"unicode/utf8"

	"reglet/api"
	"reglet/sense"
)

// language is the strings of some signs, up to a length, that something derives.
type language map[string]struct{}

func only(l ...string) language {
	all := language{}
	for _, s := range l {
		all[s] = struct{}{}
	}
	return all
}

// model is the chapter's F2 word for word: it makes the strings themselves.
type model struct {
	grammar []api.Rule
	utf     bool
	signs   string // the bytes of which the strings consist
	longest int
	rules   map[string]language
}

func newModel(g []api.Rule, utf bool, signs string, longest int) model {
	m := model{grammar: g, utf: utf, signs: signs, longest: longest, rules: map[string]language{}}
	for more := true; more; {
		more = false
		for _, name := range m.names() {
			i := slices.IndexFunc(g, func(r api.Rule) bool { return r.Name == name })
			l := m.derived(g[i].Expr)
			more = more || len(l) > len(m.rules[name])
			m.rules[name] = l
		}
	}
	return m
}

func (m model) names() []string {
	var l []string
	for _, r := range m.grammar {
		l = append(l, r.Name)
	}
	return l
}

// kept returns those strings that are short enough and consist of the signs.
func (m model) kept(l ...string) language {
	return only(slices.DeleteFunc(l, func(s string) bool {
		return len(s) > m.longest || slices.ContainsFunc([]byte(s), func(b byte) bool { return strings.IndexByte(m.signs, b) < 0 })
	})...)
}

func (m model) product(a, b language) language {
	var l []string
	for one := range a {
		for two := range b {
			l = append(l, one+two)
		}
	}
	return m.kept(l...)
}

func (m model) derived(e api.Expr) language {
	all := language{}
	switch e.Kind {
	case api.Alt:
		for _, k := range e.Kids {
			maps.Copy(all, m.derived(k))
		}
	case api.Seq:
		all = only("")
		for _, k := range e.Kids {
			all = m.product(all, m.derived(k))
		}
	case api.Rep:
		kid, so := m.derived(e.Kids[0]), only("")
		// Of more kids than that, some are empty, and can be left out.
		most := e.Min + m.longest
		if e.Max >= 0 {
			most = e.Max
		}
		for n := range most + 1 {
			if n >= e.Min {
				maps.Copy(all, so)
			}
			so = m.product(so, kid)
		}
	case api.Ref:
		maps.Copy(all, m.rules[e.Text])
	case api.Fold:
		all = only("")
		for i := range len(e.Text) {
			c := e.Text[i : i+1]
			all = m.product(all, m.kept(strings.ToLower(c), strings.ToUpper(c)))
		}
	case api.Nums:
		all = only("")
		for _, n := range e.N {
			all = m.product(all, m.bytes(n))
		}
	case api.Span:
		for n := e.N[0]; n <= e.N[1]; n++ {
			maps.Copy(all, m.bytes(n))
		}
	}
	return all
}

func (m model) bytes(n int) language {
	switch {
	case m.utf && utf8.ValidRune(rune(n)):
		return m.kept(string(rune(n)))
	case !m.utf && n >= 0 && n < 256:
		return m.kept(string([]byte{byte(n)}))
	}
	return language{}
}

// ends returns the lengths of the prefixes of a text that a name derives.
func (m model) ends(name, s string) []int {
	var l []int
	for n := range len(s) + 1 {
		if _, ok := m.rules[name][s[:n]]; ok {
			l = append(l, n)
		}
	}
	return l
}

// texts yields all texts of some bytes that are so long.
func texts(signs string, length int, yield func(string)) {
	if length == 0 {
		yield("")
		return
	}
	texts(signs, length-1, func(s string) {
		for i := range len(signs) {
			yield(s + signs[i:i+1])
		}
	})
}

// holds asks for the ends of all rules in all texts of some bytes that are so long.
func holds(t *testing.T, g []api.Rule, signs string, longest int) (found int) {
	t.Helper()
	for _, utf := range []bool{false, true} {
		m := newModel(g, utf, signs, longest)
		texts(signs, longest, func(s string) {
			for _, name := range append(m.names(), "none") {
				want := m.ends(name, s)
				found += len(want)
				if got := sense.Ends(g, name, s, utf); !slices.Equal(got, want) {
					t.Fatalf("%s, %s in %q, utf %v: %v, want %v", short(g), name, s, utf, got, want)
				}
			}
		})
	}
	return found
}

// F2, F3: grammars as people write them, in all short texts of some bytes.
func TestAllTexts(t *testing.T) {
	for _, x := range []struct{ rules, signs string }{
		{`a = "x" / a "x"`, "xXy"},
		{`a = a "x" / a "y" / ""`, "xXy"},
		{`a = "x" a "y" / "" | b = a b / "y"`, "xXy"},
		{`a = b "x" / "y" | b = a "y" / "x"`, "xXy"},
		{`a = *(*"x" *"y") | b = 2*3(["x"] "y") | c = 2("x" / "xx") "y"`, "xXy"},
		{`a = a a / "x" / b | b = b a "y" / ""`, "xXy"},
		{`a = 3a / ["y"] b | b = %x78 / %x58 a`, "xXy"},
		{`a = *%xE9 | b = 1*%xC3-E9 | c = %xC3.A9 | d = *(b / c)`, "\xc3\xa9\xe9"},
		{`a = "[" / "{" / "@" / %x60 | b = "k@[" / "k" | c = *a`, "[{@`"},
	} {
		if holds(t, rules(t, x.rules), x.signs, 5) == 0 {
			t.Errorf("%q derives none of the texts", x.rules)
		}
	}
}

// F2, F3: rules as they come, in all short texts of some bytes.
func TestDrawn(t *testing.T) {
	d := newDraw(1)
	found := 0
	for range 1000 {
		found += holds(t, d.rules(1+d.IntN(4)), "xX\xc3\xa9", 3)
	}
	if found < 100000 {
		t.Errorf("only %d ends", found)
	}
}

// F2, F3: rules as they come, in longer texts.
func TestDrawnLong(t *testing.T) {
	d := newDraw(2)
	for range 150 {
		holds(t, d.rules(1+d.IntN(4)), []string{"xX", "xy", "\xc3\xa9"}[d.IntN(3)], 7)
	}
}

// draw makes rules; they are the same in every run.
type draw struct {
	*rand.Rand
	names []string
}

func newDraw(n uint64) draw {
	return draw{rand.New(rand.NewPCG(6, n)), []string{"a", "b", "c", "d"}}
}

// rules returns so many rules; some have the name of another one.
func (d draw) rules(n int) []api.Rule {
	var g []api.Rule
	for i := range n {
		name := d.names[i]
		if d.IntN(10) == 0 {
			name = d.names[d.IntN(n)]
		}
		g = append(g, rule(name, d.expr(1+d.IntN(4))))
	}
	return g
}

// expr returns a valid expression that is so deep at most.
func (d draw) expr(depth int) api.Expr {
	if depth == 0 || d.IntN(5) == 0 {
		return d.leaf()
	}
	switch d.IntN(5) {
	case 0, 1:
		return alt(d.kids(depth)...)
	case 2, 3:
		return seq(d.kids(depth)...)
	}
	least, most := d.IntN(4), -1
	if d.IntN(2) == 0 {
		most = least + d.IntN(3)
	}
	return rep(least, most, d.expr(depth-1))
}

func (d draw) kids(depth int) []api.Expr {
	kids := make([]api.Expr, 2+d.IntN(2))
	for i := range kids {
		kids[i] = d.expr(depth - 1)
	}
	return kids
}

func (d draw) leaf() api.Expr {
	switch d.IntN(10) {
	case 0, 1:
		return fold("x")
	case 2:
		return fold([]string{"", "", "xx", "yx", "xy"}[d.IntN(5)])
	case 3:
		return nums('x')
	case 4:
		return nums([]int{'X', 'x', 0xE9, 0xC3, 0xA9, 0xD800}[d.IntN(6)], []int{'X', 'x', 0xA9, 0xE9, 300}[d.IntN(5)])
	case 5:
		return span('X', 'x')
	case 6:
		lo := []int{0, 'x', 127, 0xA9, 0xE9, 0xD7FE}[d.IntN(6)]
		return span(lo, lo+d.IntN(200))
	}
	return ref(d.names[d.IntN(len(d.names))])
}
