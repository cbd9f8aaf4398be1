package syntax_test

import (
	"fmt"
	"slices"
	"testing"

	"reglet/api"
	"reglet/grammar"
	"reglet/syntax"
	"reglet/teller"
)

// newRule is what the chapter says of a new rule.
type newRule struct {
	what  string // a group, a star or an option
	expr  api.Expr
	of    api.Sym
	times int
}

// model is a second form of the conversion, which follows the chapter word for word.
type model struct {
	g    []api.Rule
	c    api.Config
	s    api.Syntax
	news []newRule // those from Names[old] on
	old  int
	now  int // the rule for which productions are created
}

func modelBuild(g []api.Rule, c api.Config) (api.Syntax, api.Errno) {
	m := &model{g: g, c: c}
	if errno := m.firstError(); errno != api.OK {
		return api.Syntax{}, errno
	}
	for _, name := range slices.Concat(c.Tokens, c.Skip) {
		m.s.Tokens = append(m.s.Tokens, api.Token{Name: name, Expr: ref(name)})
	}
	m.s.Named, m.s.Skip = len(c.Tokens)+len(c.Skip), len(c.Skip)
	m.s.Names = append(m.s.Names, c.Start)
	for i := 0; i < len(m.s.Names); i++ {
		for _, name := range grammar.Names(g[grammar.Find(g, m.s.Names[i])].Expr) {
			if m.isRule(name) && !slices.Contains(m.s.Names, name) {
				m.s.Names = append(m.s.Names, name)
			}
		}
	}
	m.old = len(m.s.Names)
	for ; m.now < len(m.s.Names); m.now++ {
		if errno := m.productions(); errno != api.OK {
			return api.Syntax{}, errno
		}
	}
	return m.s, api.OK
}

func (m *model) firstError() api.Errno {
	for _, r := range m.g {
		if !teller.Right(r.Expr) {
			return api.ErrArg
		}
	}
	names := slices.Concat([]string{m.c.Start}, m.c.Tokens, m.c.Skip)
	for i := range names {
		if slices.Contains(names[:i], names[i]) {
			return api.ErrTwice
		}
	}
	for _, name := range names {
		if grammar.Find(m.g, name) < 0 {
			return api.ErrName
		}
	}
	return api.OK
}

// isRule tells whether a name is the one of a rule of the syntax.
func (m *model) isRule(name string) bool {
	return grammar.Find(m.g, name) >= 0 && !slices.Contains(m.c.Tokens, name) && !slices.Contains(m.c.Skip, name)
}

// productions creates those of the rule whose turn it is.
func (m *model) productions() api.Errno {
	if m.now < m.old {
		return m.alternatives(m.g[grammar.Find(m.g, m.s.Names[m.now])].Expr)
	}
	r := m.news[m.now-m.old]
	right := []api.Sym{r.of}
	switch r.what {
	case "group":
		return m.alternatives(r.expr)
	case "star":
		right = append(right, api.Sym{N: m.now})
	case "option":
		if r.times > 1 {
			next, errno := m.add(newRule{what: "option", of: r.of, times: r.times - 1})
			if errno != api.OK {
				return errno
			}
			right = append(right, next)
		}
	}
	if errno := m.production(right); errno != api.OK {
		return errno
	}
	return m.production(nil)
}

func (m *model) alternatives(e api.Expr) api.Errno {
	alternatives := []api.Expr{e}
	if e.Kind == api.Alt {
		alternatives = e.Kids
	}
	for _, a := range alternatives {
		elements := []api.Expr{a}
		if a.Kind == api.Seq {
			elements = a.Kids
		}
		var right []api.Sym
		for _, one := range elements {
			l, errno := m.symbols(one)
			if errno != api.OK {
				return errno
			}
			right = append(right, l...)
		}
		if errno := m.production(right); errno != api.OK {
			return errno
		}
	}
	return api.OK
}

func (m *model) production(right []api.Sym) api.Errno {
	if len(m.s.Prods)+1 > 3000 || len(right) > 200 {
		return api.ErrLong
	}
	m.s.Prods = append(m.s.Prods, api.Prod{Left: m.now, Right: right})
	return api.OK
}

func (m *model) add(r newRule) (api.Sym, api.Errno) {
	if len(m.s.Names)+1 > 3000 {
		return api.Sym{}, api.ErrLong
	}
	m.s.Names = append(m.s.Names, fmt.Sprintf("%s.%d", m.s.Names[m.now], len(m.news)))
	m.news = append(m.news, r)
	return api.Sym{N: len(m.s.Names) - 1}, api.OK
}

func (m *model) symbols(e api.Expr) ([]api.Sym, api.Errno) {
	switch e.Kind {
	case api.Ref:
		if i := slices.Index(m.c.Tokens, e.Text); i >= 0 {
			return []api.Sym{{Token: true, N: i}}, api.OK
		}
		if !m.isRule(e.Text) {
			return nil, api.ErrName
		}
		return []api.Sym{{N: slices.Index(m.s.Names, e.Text)}}, api.OK
	case api.Alt, api.Seq:
		x, errno := m.add(newRule{what: "group", expr: e})
		return []api.Sym{x}, errno
	case api.Rep:
		return m.repeated(e)
	}
	if e.Kind == api.Fold && e.Text == "" {
		return nil, api.OK
	}
	i := slices.IndexFunc(m.s.Tokens, func(t api.Token) bool { return t.Name == "" && sameExpr(t.Expr, e) })
	if i < 0 {
		i = len(m.s.Tokens)
		m.s.Tokens = append(m.s.Tokens, api.Token{Expr: e})
	}
	return []api.Sym{{Token: true, N: i}}, api.OK
}

func (m *model) repeated(e api.Expr) ([]api.Sym, api.Errno) {
	l, errno := m.symbols(e.Kids[0])
	if errno != api.OK {
		return nil, errno
	}
	var x api.Sym
	if len(l) == 1 {
		x = l[0]
	} else if x, errno = m.add(newRule{what: "group", expr: e.Kids[0]}); errno != api.OK {
		return nil, errno
	}
	l = nil
	for range e.Min {
		l = append(l, x)
	}
	var end api.Sym
	if e.Max < 0 {
		end, errno = m.add(newRule{what: "star", of: x})
		l = append(l, end)
	} else if e.Max > e.Min {
		end, errno = m.add(newRule{what: "option", of: x, times: e.Max - e.Min})
		l = append(l, end)
	}
	return l, errno
}

// asked holds an answer against the model's, and returns the error.
func asked(t *testing.T, g []api.Rule, c api.Config) api.Errno {
	t.Helper()
	s, errno := syntax.Build(g, c)
	want, wantErrno := modelBuild(g, c)
	if errno != wantErrno || !sameSyntax(s, want) {
		t.Errorf("%+v of %s: error %d, want %d:\n%s, want\n%s", c, short(g), errno, wantErrno, short(told(s)), short(told(want)))
	}
	return errno
}

// M1 to M3: drawn rules with drawn configs, held against the model.
func TestDrawn(t *testing.T) {
	d := newDraw(1)
	count := map[api.Errno]int{}
	for range 20000 {
		n := 1 + d.IntN(len(drawnNames))
		names := n
		if d.IntN(4) == 0 {
			names = len(drawnNames)
		}
		g := d.rules(n, 1+d.IntN(4), names)
		c := d.config(drawnNames[:n])
		if d.IntN(20) == 0 {
			c = d.config(append([]string{"a", "f"}, drawnNames[:n]...))
		}
		if d.IntN(20) == 0 {
			d.spoil(&g[d.IntN(len(g))].Expr)
		}
		count[asked(t, g, c)]++
	}
	if count[api.OK] < 5000 || count[api.ErrName] < 1000 || count[api.ErrTwice] < 100 || count[api.ErrArg] < 100 {
		t.Errorf("the errors were %v", count)
	}
}

// M1 to M3: what is long, or too long, held against the model.
func TestDrawnLong(t *testing.T) {
	d := newDraw(2)
	count := map[api.Errno]int{}
	for i := range 4000 {
		n := 1 + d.IntN(3)
		g := d.rules(n, []int{10, 30, 200}[i%3], n)
		g[0].Expr = seq(d.rep(g[0].Expr, 200), d.rep(d.rep(ref("a"), 10), 20))
		g[0].Expr = deep(g[0].Expr, d.IntN(16), func(e api.Expr) api.Expr { return d.rep(e, 3) })
		if d.IntN(3) == 0 {
			g[0].Expr = alt(g[0].Expr, d.rep(ref(drawnNames[d.IntN(n+1)]), 100))
		}
		count[asked(t, g, api.Config{Start: "a"})]++
	}
	if count[api.OK] < 500 || count[api.ErrName] < 100 || count[api.ErrLong] < 300 {
		t.Errorf("the errors were %v", count)
	}
}

// M1 to M3: each expression of some forms in each other one, held against the model.
func TestSmall(t *testing.T) {
	leaves := []api.Expr{fold("x"), fold(""), nums(1, 2), span(1, 2), ref("a"), ref("b"), ref("w"), ref("none")}
	counts := [][2]int{{0, 0}, {0, 1}, {0, 2}, {0, 3}, {0, -1}, {1, 1}, {1, 2}, {1, -1}, {2, 2}, {2, 3}, {2, 4}, {3, -1}}
	around := func(e api.Expr) []api.Expr {
		l := []api.Expr{alt(e, leaves[0]), alt(leaves[2], e), seq(e, leaves[0]), seq(leaves[2], e), seq(e, e), alt(e, e)}
		for _, c := range counts {
			l = append(l, rep(c[0], c[1], e))
		}
		return l
	}
	ask := func(e api.Expr) {
		asked(t, []api.Rule{rule("b", star(ref("c"))), rule("a", e), rule("c", ref("d")), rule("w", fold("x")), rule("d", leaves[2])}, api.Config{Start: "a", Tokens: []string{"d"}, Skip: []string{"w"}})
	}
	for _, leaf := range leaves {
		ask(leaf)
		for _, e := range around(leaf) {
			ask(e)
			for _, e := range around(e) {
				ask(e)
				for _, e := range around(e) {
					ask(e)
				}
			}
		}
	}
}
