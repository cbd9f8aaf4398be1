package grammar_test

import (
	"math/rand/v2"
	"slices"
	"sync"
	"testing"

	"reglet/api"
	"reglet/grammar"
	"reglet/reader"
	"reglet/teller"
)

// resolved asks of joined rules that they have each name once, and a rule for each name; that they are joined again as they are; and that their text is.
func resolved(t *testing.T, g []api.Rule) {
	t.Helper()
	known := map[string]bool{}
	for i, r := range g {
		if known[r.Name] || grammar.Find(g, r.Name) != i {
			t.Errorf("%s: %s stands there twice", short(g), r.Name)
		}
		known[r.Name] = true
	}
	for _, r := range g {
		for _, name := range grammar.Names(r.Expr) {
			if grammar.Find(g, name) < 0 {
				t.Errorf("%s: %s has no rule", short(g), name)
			}
		}
		for _, name := range grammar.Reach(g, r.Name) {
			if !known[name] {
				t.Errorf("%s: %s is reached and has no rule", short(g), name)
			}
		}
	}
	l := asLines(g)
	makes(t, l, g)
	text, e := teller.Tell(l)
	if e != api.OK {
		t.Errorf("%s: error %d of Tell", short(g), e)
	}
	again, e := reader.Read(text)
	if e != api.OK || !slices.EqualFunc(again, l, sameLine) {
		t.Errorf("%s: told as %s, read with error %d", short(g), short(text), e)
	}
	makes(t, again, g)
}

// E5: what was joined is joined again as it is.
func TestAgain(t *testing.T) {
	for _, text := range []string{
		"", `a = "x"`, "a = a", `a = digit | a =/ "x"`, "a = lwsp hexdig", "a = crlf | b = a / lf | a =/ b", `a = "x" / "y" | a =/ ("z" / "w") / a`, `digit = "d" | a = hexdig`, "b = c | c = b | b =/ wsp alpha",
		"a = alpha bit char cr crlf ctl digit dquote hexdig htab lf lwsp octet sp vchar wsp", "lwsp = sp / crlf | a = lwsp wsp | lwsp =/ htab", `a = 2[b / %x41-5A] | b = *digit | b =/ a | b =/ ""`,
	} {
		g, e := grammar.Join(read(t, text))
		if e != api.OK {
			t.Fatalf("%q: error %d", text, e)
		}
		resolved(t, g)
	}
	resolved(t, grammar.Core())
}

// E5: an expression that is as deep as it may be becomes too deep when it is merged; then the promise of Join is kept, and what it returned is not valid.
func TestAgainDeep(t *testing.T) {
	for depth := 45; depth <= 50; depth++ {
		e := deep(fold("x"), depth, option)
		for _, l := range [][]api.Line{{line("a", e), more("a", ref("a"))}, {line("a", ref("a")), more("a", e)}, {line("a", ref("a")), more("a", alt(e, e))}} {
			g, errno := grammar.Join(l)
			if depth < 50 {
				resolved(t, g)
			} else if errno == api.OK {
				fails(t, asLines(g), api.ErrArg)
			}
		}
	}
	// What is an Alt becomes no deeper.
	e := alt(deep(fold("x"), 49, option), ref("a"))
	g, _ := grammar.Join([]api.Line{line("a", e), more("a", e), more("a", e)})
	if len(g) != 1 || len(g[0].Expr.Kids) != 6 {
		t.Errorf("joined to %s", short(g))
	}
	resolved(t, g)
}

// modelJoin is the chapter's E3 word for word, without any thought for how long it takes.
func modelJoin(l []api.Line) ([]api.Rule, api.Errno) {
	alternatives := func(e api.Expr) []api.Expr {
		if e.Kind == api.Alt {
			return e.Kids
		}
		return []api.Expr{e}
	}
	var g []api.Rule
	at := func(name string) int {
		return slices.IndexFunc(g, func(r api.Rule) bool { return r.Name == name })
	}
	for _, one := range l {
		if _, e := teller.Tell([]api.Line{one}); e != api.OK {
			return nil, api.ErrArg
		}
	}
	for _, one := range l {
		i := at(one.Name)
		switch {
		case one.More && i < 0 || !one.More && i >= 0:
			return nil, api.ErrTwice
		case !one.More:
			g = append(g, rule(one.Name, one.Expr))
		default:
			g[i].Expr = alt(slices.Concat(alternatives(g[i].Expr), alternatives(one.Expr))...)
		}
	}
	for i := 0; i < len(g); i++ {
		for _, name := range modelNames(g[i].Expr) {
			if at(name) >= 0 {
				continue
			}
			core := slices.IndexFunc(coreRules(), func(r api.Rule) bool { return r.Name == name })
			if core < 0 {
				return nil, api.ErrName
			}
			g = append(g, coreRules()[core])
		}
	}
	return g, api.OK
}

func modelNames(e api.Expr) []string {
	var l []string
	if e.Kind == api.Ref {
		l = []string{e.Text}
	}
	for _, k := range e.Kids {
		l = append(l, modelNames(k)...)
	}
	return l
}

// modelReach is the chapter's E4 word for word.
func modelReach(g []api.Rule, name string) []string {
	at := func(name string) int {
		return slices.IndexFunc(g, func(r api.Rule) bool { return r.Name == name })
	}
	if at(name) < 0 {
		return nil
	}
	l := []string{name}
	for i := 0; i < len(l); i++ {
		if at(l[i]) < 0 {
			continue
		}
		for _, next := range modelNames(g[at(l[i])].Expr) {
			if !slices.Contains(l, next) {
				l = append(l, next)
			}
		}
	}
	return l
}

// E2 to E5: rules as they come.
func TestDrawn(t *testing.T) {
	d := newDraw(1)
	met := map[api.Errno]int{}
	for range 20000 {
		l := d.lines(d.IntN(6))
		want, errno := modelJoin(l)
		got, e := grammar.Join(l)
		if e != errno || !slices.EqualFunc(got, want, sameRule) {
			t.Fatalf("%s: error %d, want %d, rules %s, want %s", short(l), e, errno, short(got), short(want))
		}
		met[e]++
		if e == api.OK {
			resolved(t, got)
		}
		// Rules that were not joined, with names that no rule has, or two have.
		g := make([]api.Rule, len(l))
		for i, one := range l {
			g[i] = rule(one.Name, one.Expr)
			named(t, one.Expr, modelNames(one.Expr)...)
		}
		for _, name := range d.names {
			for _, rules := range [][]api.Rule{g, got} {
				if reached := grammar.Reach(rules, name); !slices.Equal(reached, modelReach(rules, name)) {
					t.Fatalf("%s from %s: %q", short(rules), name, reached)
				}
			}
		}
	}
	for _, e := range []api.Errno{api.OK, api.ErrArg, api.ErrTwice, api.ErrName} {
		if met[e] < 500 {
			t.Errorf("error %d came up %d times", e, met[e])
		}
	}
}

// guarded returns an expression in memory of its own, with one more item behind each list.
func guarded(e api.Expr) api.Expr {
	e.N = append(slices.Clone(e.N), -7)[:len(e.N)]
	kids := make([]api.Expr, 0, len(e.Kids)+1)
	for _, k := range e.Kids {
		kids = append(kids, guarded(k))
	}
	e.Kids = append(kids, ref("behind"))[:len(e.Kids)]
	return e
}

// unchanged holds an expression against what it was, also behind the ends of its lists.
func unchanged(a, b api.Expr) bool {
	behind := a.Kids[:len(a.Kids)+1][len(a.Kids)]
	return same(a, b) && a.N[:len(a.N)+1][len(a.N)] == -7 && behind.Kind == 4 && behind.Text == "behind" &&
		slices.EqualFunc(a.Kids, b.Kids, unchanged)
}

// R3: what is handed in stays as it is, also when what was returned is written into; and the other way round.
func TestMemory(t *testing.T) {
	d := newDraw(2)
	behind := line("behind", guarded(ref("x")))
	for range 3000 {
		original := d.lines(1 + d.IntN(5))
		var l []api.Line
		var g []api.Rule
		for _, one := range append(slices.Clip(original), behind) {
			one.Expr = guarded(one.Expr)
			l, g = append(l, one), append(g, rule(one.Name, one.Expr))
		}
		l, g = l[:len(original)], g[:len(original)]
		joined, _ := grammar.Join(l)
		want, _ := modelJoin(original)
		for i, r := range g {
			grammar.Find(g, r.Name)
			names, reached := grammar.Names(r.Expr), grammar.Reach(g, r.Name)
			clear(names)
			clear(reached)
			if !unchanged(r.Expr, original[i].Expr) || r.Name != original[i].Name {
				t.Fatalf("%s was changed to %s", short(original), short(g))
			}
		}
		spare, _ := grammar.Join(l)
		spoil(spare)
		full := l[:len(l)+1]
		for i, one := range append(slices.Clip(original), behind) {
			if full[i].Name != one.Name || full[i].More != one.More || !unchanged(full[i].Expr, one.Expr) && i < len(l) || g[:len(full)][i].Name != one.Name {
				t.Fatalf("%s was changed to %s", short(original), short(full))
			}
		}
		for i := range l {
			spoilExpr(&l[i].Expr)
		}
		if !slices.EqualFunc(joined, want, sameRule) {
			t.Fatalf("%s was joined to %s, which was changed to %s", short(original), short(want), short(joined))
		}
	}
}

// own asks that each item of the lists in an expression, also behind their ends, is in no other list.
func own(t *testing.T, e api.Expr, known map[any]bool) {
	t.Helper()
	note := func(place any) {
		if known[place] {
			t.Fatalf("a list of %s is in another one too", short(e))
		}
		known[place] = true
	}
	numbers, kids := e.N[:cap(e.N)], e.Kids[:cap(e.Kids)]
	for i := range numbers {
		note(&numbers[i])
	}
	for i := range kids {
		note(&kids[i])
	}
	for _, k := range e.Kids {
		own(t, k, known)
	}
}

// R3: lists of what is returned are lists of their own, also if those that were handed in are not.
func TestOwnLists(t *testing.T) {
	d := newDraw(3)
	for range 1000 {
		l := d.lines(1 + d.IntN(5))
		e := alt(l[0].Expr, nums(1, 2), l[0].Expr)
		l = append(l, line("c", e), more("c", e), line("b-1", seq(e, e)), more("c", option(e)))
		joined, _ := grammar.Join(l)
		again, _ := grammar.Join(asLines(joined))
		known := map[any]bool{}
		for _, r := range slices.Concat(joined, again, grammar.Core()) {
			own(t, r.Expr, known)
		}
	}
}

// R4: a result hangs on nothing but the rules: not on earlier calls, nor on calls at the same time.
func TestNoState(t *testing.T) {
	d := newDraw(4)
	var lists [][]api.Line
	var wanted [][]api.Rule
	var errnos []api.Errno
	for range 16 {
		l := d.lines(4)
		g, e := modelJoin(l)
		lists, wanted, errnos = append(lists, l), append(wanted, g), append(errnos, e)
	}
	var group sync.WaitGroup
	for i, l := range lists {
		group.Go(func() {
			for range 100 {
				g, e := grammar.Join(l)
				if e != errnos[i] || !slices.EqualFunc(g, wanted[i], sameRule) {
					t.Errorf("%s: error %d, rules %s", short(l), e, short(g))
				}
				for _, name := range d.names {
					if got := grammar.Reach(g, name); !slices.Equal(got, modelReach(wanted[i], name)) {
						t.Errorf("%s from %s: %q", short(g), name, got)
					}
				}
				spoil(grammar.Core())
			}
		})
	}
	group.Wait()
}

// draw makes rules; they are the same in every run.
type draw struct {
	*rand.Rand
	names []string
}

func newDraw(n uint64) draw {
	return draw{rand.New(rand.NewPCG(5, n)), []string{"a", "b", "x-1", "digit", "wsp", "crlf", "hexdig", "lwsp", "none", ""}}
}

// lines returns so many rules; most of them are in order.
func (d draw) lines(n int) []api.Line {
	var l []api.Line
	for _, i := range d.Perm(len(d.names) - 2)[:n] {
		l = append(l, line(d.names[i], d.expr(1+d.IntN(4))))
	}
	for range d.IntN(3) {
		at := d.IntN(len(l) + 1)
		one := more(d.names[d.IntN(len(d.names)-2)], d.expr(1+d.IntN(3)))
		one.More = d.IntN(8) > 0
		if at > 0 && d.IntN(4) > 0 {
			one.Name = l[d.IntN(at)].Name
		}
		l = slices.Insert(l, at, one)
	}
	if len(l) > 0 && d.IntN(20) == 0 {
		l[d.IntN(len(l))].Expr.Min += 1000
	}
	// Names that are there are more likely to be meant.
	for i := range l {
		d.aim(&l[i].Expr, l)
	}
	return l
}

// aim gives most of the names in an expression to rules that are there.
func (d draw) aim(e *api.Expr, l []api.Line) {
	if e.Kind == api.Ref && d.IntN(8) > 0 {
		e.Text = l[d.IntN(len(l))].Name
	}
	for i := range e.Kids {
		d.aim(&e.Kids[i], l)
	}
}

// expr returns a valid expression that is so deep at most.
func (d draw) expr(depth int) api.Expr {
	if depth == 0 || d.IntN(4) == 0 {
		return d.leaf()
	}
	switch d.IntN(4) {
	case 0:
		return alt(d.kids(depth)...)
	case 1:
		return seq(d.kids(depth)...)
	case 2:
		return rep(d.IntN(3), 2+d.IntN(5), d.expr(depth-1))
	}
	return option(d.expr(depth - 1))
}

func (d draw) kids(depth int) []api.Expr {
	kids := make([]api.Expr, 2+d.IntN(3))
	for i := range kids {
		kids[i] = d.expr(depth - 1)
	}
	return kids
}

func (d draw) leaf() api.Expr {
	switch d.IntN(5) {
	case 0:
		return fold("x")
	case 1:
		return nums(d.IntN(300), d.IntN(300))
	case 2:
		return span(d.IntN(50), 50+d.IntN(50))
	}
	return ref(d.names[d.IntN(len(d.names)-1)])
}
