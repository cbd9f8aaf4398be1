package syntax_test

import (
	"math/rand/v2"

	"reglet/api"
)

// draw draws the same things in each run.
type draw struct{ *rand.Rand }

func newDraw(n uint64) draw { return draw{rand.New(rand.NewPCG(12, n))} }

var drawnNames = []string{"a", "b", "c", "d", "e"}

// rules draws so many rules of so many names, which repeat things up to so often. Some rules have the name of another one.
func (d draw) rules(n, most, names int) []api.Rule {
	var g []api.Rule
	for i := range n {
		g = append(g, rule(drawnNames[i], d.expr(1+d.IntN(4), most, drawnNames[:names])))
	}
	for i := n - 1; i >= 0 && d.IntN(4) == 0; i-- {
		g = append(g, rule(g[i].Name, d.expr(1, most, drawnNames)))
	}
	return g
}

// config draws a config that begins with a rule of some names.
func (d draw) config(names []string) api.Config {
	var c api.Config
	for i, at := range d.Perm(len(names)) {
		switch {
		case i == 0:
			c.Start = names[at]
		case d.IntN(4) == 0:
			c.Tokens = append(c.Tokens, names[at])
		case d.IntN(8) == 0:
			c.Skip = append(c.Skip, names[at])
		}
	}
	return c
}

// expr draws a valid expression that is so deep at most, of some names.
func (d draw) expr(depth, most int, names []string) api.Expr {
	if depth == 0 || d.IntN(5) == 0 {
		return d.leaf(names)
	}
	switch d.IntN(5) {
	case 0, 1:
		return alt(d.kids(depth, most, names)...)
	case 2, 3:
		return seq(d.kids(depth, most, names)...)
	}
	return d.rep(d.expr(depth-1, most, names), most)
}

func (d draw) kids(depth, most int, names []string) []api.Expr {
	kids := make([]api.Expr, 2+d.IntN(2))
	for i := range kids {
		kids[i] = d.expr(depth-1, most, names)
	}
	return kids
}

// rep draws a repetition of an expression, up to so often.
func (d draw) rep(e api.Expr, most int) api.Expr {
	switch d.IntN(8) {
	case 0, 1:
		return option(e)
	case 2:
		return star(e)
	case 3:
		return rep(0, 0, e)
	}
	least := d.IntN(most + 1)
	switch d.IntN(3) {
	case 0:
		return rep(least, -1, e)
	case 1:
		return rep(least, least, e)
	}
	return rep(least, least+d.IntN(most+1-least), e)
}

func (d draw) leaf(names []string) api.Expr {
	switch d.IntN(10) {
	case 0, 1:
		return fold("x")
	case 2:
		return fold([]string{"", "", "xx", "yx", "xy"}[d.IntN(5)])
	case 3:
		return nums('x')
	case 4:
		return nums([]int{'X', 'x', 0xE9, 0xC3, 0xA9, 0xD800}[d.IntN(6)], []int{'X', 'x', 0xA9, 0xE9, 300}[d.IntN(5)])
	case 5:
		return span('X', 'x')
	case 6:
		lo := []int{0, 'x', 127, 0xA9, 0xE9, 0xD7FE}[d.IntN(6)]
		return span(lo, lo+d.IntN(200))
	}
	return ref(names[d.IntN(len(names))])
}

// spoil makes an expression, or one in it, one that is not valid.
func (d draw) spoil(e *api.Expr) {
	for len(e.Kids) > 0 && d.IntN(3) > 0 {
		e = &e.Kids[d.IntN(len(e.Kids))]
	}
	switch d.IntN(4) {
	case 0:
		e.Kind += 8
	case 1:
		e.Text += "\n"
	case 2:
		e.N = append(e.N, -1)
	case 3:
		e.Min--
	}
}
