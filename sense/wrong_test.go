package sense_test

import (
	"math"
	"runtime/debug"
	"slices"
	"strings"
	"sync"
	"testing"

	"reglet/api"
	"reglet/sense"
)

// R1: what is not valid has an answer all the same, and the answer has an order.
func TestWrong(t *testing.T) {
	x := fold("x")
	extremes := []int{math.MinInt, math.MinInt + 1, -1 << 32, -201, -2, -1, 0, 1, 2, 127, 128, 255, 256, 0xD800, greatest, greatest + 1, 1 << 32, math.MaxInt - 1, math.MaxInt}
	var l []api.Expr
	for kind := -1; kind < 10; kind++ {
		for _, n := range extremes {
			for _, m := range extremes {
				for _, kids := range [][]api.Expr{nil, {x}, {fold("")}, {x, fold("y")}, {ref("a")}, {{}}, {{}, x}} {
					l = append(l, api.Expr{Kind: kind, Text: "x", N: []int{n, m}, Min: n, Max: m, Kids: kids})
				}
			}
			l = append(l, api.Expr{Kind: kind, Text: "A\x00\xffé", N: []int{n}}, api.Expr{Kind: kind, N: []int{n, n, n}, Min: n})
		}
	}
	for _, e := range l {
		for _, s := range []string{"", "xxx", "\xc3\xa9\xff"} {
			for _, utf := range []bool{true, false} {
				for _, one := range []api.Expr{e, seq(e, e), rep(2, -1, e)} {
					got := sense.Ends([]api.Rule{rule("a", one)}, "a", s, utf)
					if !slices.IsSorted(got) || len(got) > 0 && (got[0] < 0 || got[len(got)-1] > len(s)) {
						t.Errorf("%s in %q: %v", short(one), s, got)
					}
				}
			}
		}
	}
}

// R1: counts of any size are told by the words of F2, and take no longer than others.
func TestGreatCounts(t *testing.T) {
	s := strings.Repeat("x", 50)
	for _, n := range []int{51, 201, 1 << 31, 1 << 40, math.MaxInt - 1, math.MaxInt} {
		for _, most := range []int{-1, n, math.MaxInt} {
			alone(t, rep(n, most, fold("x")), s)
			alone(t, rep(n, most, option(fold("x"))), s, from(0, 50)...)
			alone(t, rep(n, most, fold("")), s, 0)
			alone(t, rep(0, most, alt(fold("x"), fold("xx"))), s, from(0, 50)...)
			alone(t, seq(rep(n, most, option(fold("x"))), rep(n, most, option(fold("x")))), s, from(0, 50)...)
		}
		alone(t, rep(-n, -n, fold("x")), s, from(0, 50)...)
		alone(t, rep(-n, 3, fold("x")), s, 0, 1, 2, 3)
		alone(t, rep(n, n-1, fold("x")), s)
		alone(t, rep(n, n-1, option(fold("x"))), s)
		alone(t, rep(n, 0, option(fold("x"))), s)
	}
	alone(t, rep(2, 1, fold("x")), s)
	alone(t, rep(2, 1, fold("")), s)
	alone(t, rep(3, 1, option(fold("x"))), s)
}

// R1: a Span of numbers of any size is not gone through.
func TestGreatSpans(t *testing.T) {
	g := []api.Rule{rule("a", span(math.MinInt, math.MaxInt)), rule("b", span(greatest+1, math.MaxInt)), rule("c", span(math.MinInt, -1)), rule("d", span(math.MaxInt, math.MinInt)), rule("e", span(-1, 1<<40))}
	for _, name := range []string{"a", "e"} {
		ends(t, g, name, "€", true, 3)
		ends(t, g, name, "€", false, 1)
		ends(t, g, name, "\xff", true)
		both(t, g, name, "\x00", 1)
		both(t, g, name, "")
	}
	for _, name := range []string{"b", "c", "d"} {
		for _, s := range []string{"", "\x00", "x", "\xff", "€", "\U0010ffff", "\ufffd"} {
			both(t, g, name, s)
		}
	}
}

// endless returns expressions that are nested in themselves, at one place and at all.
func endless(e api.Expr) []api.Expr {
	var l []api.Expr
	for i := range e.Kids {
		one := e
		one.Kids = slices.Clone(e.Kids)
		one.Kids[i] = one
		l = append(l, one, option(one), seq(one, one))
		// By way of others.
		around := slices.Clone(e.Kids)
		around[i] = seq(fold("x"), option(alt(api.Expr{Kind: e.Kind, Max: -1, Kids: around}, fold("x"))))
		l = append(l, around[i], deep(around[i], 7, option))
	}
	all := e
	all.Kids = slices.Clone(e.Kids)
	for i := range all.Kids {
		all.Kids[i] = all
	}
	return append(l, all)
}

// R1: an expression that is nested in itself has no end, but a call has.
func TestEndless(t *testing.T) {
	x := fold("x")
	for _, e := range []api.Expr{option(x), rep(2, -1, x), alt(x, x), seq(x, x, x), alt(x, x, x), seq(ref("a"), x), alt(ref("b"), x, ref("b")), {Kind: 4, Text: "b", Kids: []api.Expr{x, x}}} {
		for _, one := range endless(e) {
			g := []api.Rule{rule("a", one), rule("b", alt(x, ref("c"))), rule("c", one), rule("d", x)}
			for _, name := range []string{"a", "b", "c"} {
				for _, s := range []string{"", "x", strings.Repeat("x", 30)} {
					sense.Ends(g, name, s, false)
					sense.Ends(g, name, s, true)
				}
			}
			// What has nothing to do with it derives what it derives.
			both(t, g, "d", "xx", 1)
		}
	}
	// Kids that a kind does not have are none.
	for _, e := range []api.Expr{x, nums('x'), span('x', 'z'), ref("d")} {
		e.Kids = []api.Expr{x, x}
		e.Kids[0], e.Kids[1] = e, e
		both(t, []api.Rule{rule("a", e), rule("d", x)}, "a", "xx", 1)
	}
	// By way of so many others that Go's stack would end.
	defer debug.SetMaxStack(debug.SetMaxStack(16 << 20))
	for _, n := range []int{1, 2, 3, 9999, 200000} {
		round := make([]api.Expr, n)
		for i := range round {
			round[i] = api.Expr{Kind: 3, Max: 1, Kids: round[(i+1)%n : (i+1)%n+1]}
		}
		sense.Ends([]api.Rule{rule("a", round[0])}, "a", "x", false)
		sense.Ends([]api.Rule{rule("a", seq(deep(round[0], 12345, option), x))}, "a", "x", false)
	}
}

// F2: an expression that stands in several places is not nested in itself.
func TestShared(t *testing.T) {
	one := seq(fold("x"), option(fold("y")))
	for _, depth := range []int{0, 1, 2, 3, 7, 8, 9, 31, 32, 33, 63, 64, 65} {
		e := deep(seq(deep(one, depth/2, option), one, one), depth, option)
		got := sense.Ends([]api.Rule{rule("a", seq(e, fold("!")))}, "a", "xyxxy!", false)
		if !slices.Equal(got, []int{6}) {
			t.Errorf("depth %d: %v", depth, got)
		}
	}
	e := fold("x")
	for range 12 {
		e = seq(e, e)
	}
	alone(t, e, strings.Repeat("x", 5000), 4096)
}

// R1: neither how deep an expression is nor how often a rule comes back to itself is bounded by Go's stack.
func TestDeeperThanStack(t *testing.T) {
	defer debug.SetMaxStack(debug.SetMaxStack(4 << 20))
	for _, n := range []int{49, 50, 51, 52, 1000, 100000} {
		alone(t, deep(fold("x"), n, option), "xx", 0, 1)
		alone(t, deep(fold("x"), n, func(e api.Expr) api.Expr { return seq(fold(""), e) }), "xx", 1)
		alone(t, deep(fold("x"), n, func(e api.Expr) api.Expr { return seq(e, fold("")) }), "xx", 1)
		alone(t, deep(fold("x"), n, func(e api.Expr) api.Expr { return alt(e, fold("y")) }), "xx", 1)
	}
	const n = 30000
	open, closed, x := strings.Repeat("(", n), strings.Repeat(")", n), strings.Repeat("x", n)
	told(t, `a = "(" a ")" / ""`, open+closed+closed, 0, 2*n)
	told(t, `a = "(" a ")" / "x"`, open+"x"+closed, 2*n+1)
	told(t, `a = "(" a ")" / "x"`, open+closed)
	told(t, `a = "(" b | b = a ")" / ")"`, open+closed, 2*n)
	told(t, `a = "x" a / ""`, x, from(0, n)...)
	told(t, `a = a "x" / ""`, x, from(0, n)...)
	told(t, `a = *"x"`, x, from(0, n)...)
	told(t, `a = 1*("x" / "y" / ["z"])`, x, from(0, n)...)
	told(t, `a = "x" [a]`, x, from(1, n)...)
	told(t, `a = "x" b | b = ["x" / a]`, x, from(1, n)...)
	told(t, `a = 1*b "y" | b = "x" / %x78.78`, x+"y", n+1)
	told(t, `a = *(%x20-21 / %x23-5B / %x5D-7E / %x5C "x") %x22`, x+`\x"`, n+3)
}

// guarded returns an expression in memory of its own, with one more item behind each list.
func guarded(e api.Expr) api.Expr {
	e.N = append(slices.Clone(e.N), -7)[:len(e.N)]
	kids := make([]api.Expr, 0, len(e.Kids)+1)
	for _, k := range e.Kids {
		kids = append(kids, guarded(k))
	}
	e.Kids = append(kids, ref("behind"))[:len(e.Kids)]
	return e
}

// same holds an expression against what it was, also behind the ends of its lists.
func same(a, b api.Expr) bool {
	n, behind := a.N[:len(a.N)+1], a.Kids[:len(a.Kids)+1][len(a.Kids)]
	return a.Kind == b.Kind && a.Text == b.Text && a.Min == b.Min && a.Max == b.Max && slices.Equal(a.N, b.N) && n[len(a.N)] == -7 &&
		behind.Kind == 4 && behind.Text == "behind" && slices.EqualFunc(a.Kids, b.Kids, same)
}

// R3: what is handed in stays as it is, and an answer is memory of its own.
func TestMemory(t *testing.T) {
	d := newDraw(6)
	for range 1000 {
		original, s := d.rules(4), d.text(10)
		var g []api.Rule
		for _, r := range original {
			g = append(g, rule(r.Name, guarded(r.Expr)))
		}
		g = append(g, rule("behind", guarded(fold("x"))))
		for _, name := range d.names {
			got := sense.Ends(g[:4], name, s, true)
			want := slices.Clone(got)
			for i := range got[:cap(got)] {
				got[:cap(got)][i] = -7
			}
			ends(t, g[:4], name, s, true, want...)
		}
		for i, r := range original {
			if g[i].Name != r.Name || !same(g[i].Expr, r.Expr) {
				t.Fatalf("%s was changed to %s", short(original), short(g))
			}
		}
		if len(g) != 5 || g[4].Name != "behind" || !same(g[4].Expr, fold("x")) {
			t.Fatalf("what is behind %s was changed", short(g))
		}
	}
}

// R4: an answer hangs on nothing but the arguments: not on earlier calls, nor on calls at the same time.
func TestNoState(t *testing.T) {
	d := newDraw(7)
	type call struct {
		g       []api.Rule
		name, s string
		utf     bool
		want    []int
	}
	var calls []call
	for range 200 {
		c := call{g: d.rules(4), name: d.names[d.IntN(4)], s: d.text(12), utf: d.IntN(2) == 0}
		c.want = sense.Ends(c.g, c.name, c.s, c.utf)
		calls = append(calls, c)
	}
	var group sync.WaitGroup
	for i := range 8 {
		group.Go(func() {
			for j := range calls {
				c := calls[(j*(2*i+1))%len(calls)]
				if got := sense.Ends(c.g, c.name, c.s, c.utf); !slices.Equal(got, c.want) {
					t.Errorf("%s, %s in %q: %v, want %v", short(c.g), c.name, c.s, got, c.want)
				}
			}
		})
	}
	group.Wait()
}
