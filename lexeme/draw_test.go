package lexeme_test

import (
	"math/rand/v2"
	"slices"
	"strings"

	"reglet/api"
	"reglet/sense"
)

// draw draws the same things in each run.
type draw struct{ *rand.Rand }

func newDraw(n uint64) draw { return draw{rand.New(rand.NewPCG(11, n))} }

var drawnNames = []string{"a", "b", "c", "d", "e"}

// rules draws so many rules, which repeat things up to so often. If they are sound, a rule names only those behind it; if not, there may be loops, and names without rules. Some rules have the name of another one.
func (d draw) rules(n, most int, sound bool) []api.Rule {
	var g []api.Rule
	for i := range n {
		names := drawnNames[i+1 : n]
		if !sound && d.IntN(3) == 0 {
			names = drawnNames[:1+d.IntN(len(drawnNames))]
		}
		g = append(g, rule(drawnNames[i], d.expr(1+d.IntN(4), most, names)))
	}
	for i := len(g) - 1; i >= 0 && d.IntN(4) == 0; i-- {
		g = append(g, rule(g[i].Name, d.expr(1, most, drawnNames)))
	}
	return g
}

// expr draws a valid expression that is so deep at most, of some names.
func (d draw) expr(depth, most int, names []string) api.Expr {
	if depth == 0 || d.IntN(5) == 0 {
		return d.leaf(names)
	}
	switch d.IntN(5) {
	case 0, 1:
		return alt(d.kids(depth, most, names)...)
	case 2, 3:
		return seq(d.kids(depth, most, names)...)
	}
	return d.rep(d.expr(depth-1, most, names), most)
}

func (d draw) kids(depth, most int, names []string) []api.Expr {
	kids := make([]api.Expr, 2+d.IntN(2))
	for i := range kids {
		kids[i] = d.expr(depth-1, most, names)
	}
	return kids
}

// rep draws a repetition of an expression, up to so often.
func (d draw) rep(e api.Expr, most int) api.Expr {
	switch d.IntN(8) {
	case 0, 1:
		return option(e)
	case 2:
		return star(e)
	case 3:
		return rep(0, 0, e)
	}
	least := d.IntN(most + 1)
	if d.IntN(3) == 0 {
		return rep(least, -1, e)
	}
	return rep(least, least+d.IntN(most+1-least), e)
}

func (d draw) leaf(names []string) api.Expr {
	switch d.IntN(10) {
	case 0, 1:
		return fold("x")
	case 2:
		return fold([]string{"", "", "xx", "yx", "xy"}[d.IntN(5)])
	case 3:
		return nums('x')
	case 4:
		return nums([]int{'X', 'x', 0xE9, 0xC3, 0xA9, 0xD800}[d.IntN(6)], []int{'X', 'x', 0xA9, 0xE9, 300}[d.IntN(5)])
	case 5:
		return span('X', 'x')
	case 6:
		lo := []int{0, 'x', 127, 0xA9, 0xE9, 0xD7FE}[d.IntN(6)]
		return span(lo, lo+d.IntN(200))
	}
	if len(names) == 0 {
		return fold("y")
	}
	return ref(names[d.IntN(len(names))])
}

// text draws a string that an expression derives, unless it comes upon something that derives none.
func (d draw) text(g []api.Rule, e api.Expr, utf bool) (string, bool) {
	var b strings.Builder
	ok := true
	var write func(e api.Expr)
	bytes := func(n int) {
		l := sense.Bytes(n, utf)
		ok = ok && len(l) > 0
		for _, c := range l {
			b.WriteByte(byte(c))
		}
	}
	write = func(e api.Expr) {
		switch e.Kind {
		case api.Alt:
			write(e.Kids[d.IntN(len(e.Kids))])
		case api.Seq:
			for _, k := range e.Kids {
				write(k)
			}
		case api.Rep:
			most := e.Max
			if most < 0 {
				most = e.Min + 3
			}
			for range e.Min + d.IntN(most+1-e.Min) {
				write(e.Kids[0])
			}
		case api.Ref:
			i := slices.IndexFunc(g, func(r api.Rule) bool { return r.Name == e.Text })
			write(g[i].Expr)
		case api.Fold:
			for i := range len(e.Text) {
				c := e.Text[i : i+1]
				if d.IntN(2) == 0 {
					c = strings.ToUpper(c)
				}
				b.WriteString(c)
			}
		case api.Nums:
			for _, n := range e.N {
				bytes(n)
			}
		case api.Span:
			bytes(e.N[0] + d.IntN(e.N[1]-e.N[0]+1))
		}
	}
	write(e)
	return b.String(), ok
}

// spoilt changes a string in a place.
func (d draw) spoilt(s string) string {
	at := d.IntN(len(s) + 1)
	switch d.IntN(3) {
	case 0:
		return s[:at] + d.sign() + s[at:]
	case 1:
		return s[:at] + d.sign() + s[min(at+1, len(s)):]
	}
	return s[:at] + s[min(at+1, len(s)):]
}

func (d draw) sign() string {
	return []string{"x", "X", "y", "\xc3", "\xa9", "\xe9", "\x00", "\xff", "é"}[d.IntN(9)]
}
