package least_test

import (
	"slices"
	"testing"

	"reglet/api"
	"reglet/byteset"
	"reglet/regex"
)

// grown returns an automaton in which all strings have the same tags as in a valid one that has states: with so many states more at least, other numbers and more classes. Some states are twice there, some are dead, and some are not reached.
func (d draw) grown(a api.Auto, more int) api.Auto {
	old := len(a.Next)
	// Which old state each new one stands for, first the old ones themselves. At old, a dead state; at -1, none.
	stands := slices.Clone(d.Perm(old))
	i := slices.Index(stands, 0)
	stands[0], stands[i] = stands[i], stands[0]
	for range more {
		stands = append(stands, d.IntN(old+1))
	}
	copies := make([][]int, old+1)
	for s, of := range stands {
		copies[of] = append(copies[of], s)
	}
	copies[old] = append(copies[old], -1)
	// Each new class stands for an old one; the first ones are the old ones in their order.
	var class [256]int
	var classOf []int
	known := map[[2]int]int{}
	for b, c := range a.Class {
		key := [2]int{c, d.IntN(3)}
		if _, ok := known[key]; !ok {
			known[key] = len(classOf)
			classOf = append(classOf, c)
		}
		class[b] = known[key]
	}
	g := api.Auto{Class: class, Next: rows(len(stands), len(classOf))}
	for s, of := range stands {
		tag := 0
		if of < old {
			tag = a.Tag[of]
		}
		g.Tag = append(g.Tag, tag)
		for c := range classOf {
			to := old
			if of < old && a.Next[of][classOf[c]] >= 0 {
				to = a.Next[of][classOf[c]]
			}
			g.Next[s][c] = copies[to][d.IntN(len(copies[to]))]
		}
	}
	return g
}

// K2: automata in which all strings have the same tags have the same minimal one.
func TestSameLeast(t *testing.T) {
	d := newDraw(3)
	for range 1500 {
		a := d.auto(1+d.IntN(8), 1+d.IntN(4), 1+d.IntN(3))
		m := minimal(t, a)
		for range 3 {
			g := d.grown(a, d.IntN(30))
			sameTags(t, a, g)
			becomes(t, g, m)
			if len(m.Next) > 0 {
				becomes(t, d.grown(m, d.IntN(10)), m)
			}
		}
	}
}

// K2: two automata have the same minimal one only if all strings have the same tags in them.
func TestOtherLeast(t *testing.T) {
	d := newDraw(4)
	count := map[bool]int{}
	for range 3000 {
		a := d.auto(1+d.IntN(3), 1, 1)
		b := d.auto(1+d.IntN(3), 1, 1)
		same := true
		// If no string of so many bytes tells two automata of three states apart, none does.
		for x, y, i := 0, 0, 0; i < 10; i++ {
			m, n := newModel(a), newModel(b)
			same = same && m.tag(x) == n.tag(y)
			x, y = m.step(x, 0), n.step(y, 0)
		}
		if equal(minimal(t, a), minimal(t, b)) != same {
			t.Errorf("%s\n%s: the same tags is %v", told(a), told(b), same)
		}
		count[same]++
	}
	if count[true] < 300 || count[false] < 300 {
		t.Errorf("of those that were drawn, %v had the same tags", count)
	}
}

// K2: a minimal automaton is its own.
func TestAgain(t *testing.T) {
	d := newDraw(5)
	for range 3000 {
		m := minimal(t, d.auto(1+d.IntN(20), 1+d.IntN(6), 1+d.IntN(3)))
		becomes(t, m, m)
	}
	for _, a := range []api.Auto{{}, of("-", "1"), of("0", "7"), of("-1 0-", "01", "z")} {
		becomes(t, a, a)
	}
}

// K2: expressions that derive the same strings.
func TestSameExpressions(t *testing.T) {
	a, b, c := regex.Of(byteset.Of('a', 'a')), regex.Of(byteset.Of('b', 'b')), regex.Of(byteset.Of('c', 'c'))
	empty := api.Re{Kind: api.Empty}
	cat := func(l ...api.Re) api.Re { return regex.Cat(l) }
	either := func(l ...api.Re) api.Re { return regex.Either(l) }
	star := regex.Star
	for _, x := range [][2][]api.Re{
		{{star(a)}, {cat(star(a), star(a))}},
		{{star(either(a, b))}, {star(cat(star(a), star(b)))}},
		{{star(either(a, b))}, {cat(star(a), star(cat(b, star(a))))}},
		{{cat(a, star(cat(b, a)))}, {cat(star(cat(a, b)), a)}},
		{{either(cat(a, c), cat(b, c))}, {cat(either(a, b), c)}},
		{{either(cat(a, b), cat(a, c), a)}, {cat(a, either(b, c, empty))}},
		{{star(cat(a, a))}, {either(empty, cat(a, star(cat(a, a)), a))}},
		{{star(a)}, {either(star(cat(a, a)), cat(a, star(cat(a, a))))}},
		{{a, star(a)}, {a, either(empty, cat(a, a, star(a)))}},
		{{star(a), star(either(a, b))}, {star(a), cat(star(either(a, b)), b, star(either(a, b)))}},
		{{a, b, a, c}, {a, b, a, either(a, b, c)}},
		{{cat(star(either(a, b)), a, either(a, b))}, {either(cat(star(either(b, a)), a, a), cat(star(either(b, a)), a, b))}},
	} {
		one, two := built(t, x[0]...), built(t, x[1]...)
		sameTags(t, one, two)
		becomes(t, one, minimal(t, two))
		asModel(t, one)
		asModel(t, two)
	}
}
