package lexeme_test

import (
	"fmt"
	"strings"
	"testing"

	"reglet/api"
	"reglet/deriv"
	"reglet/lexeme"
	"reglet/regex"
)

// many returns so many expressions of one sign, of which each is another one than the one before.
func many(n int) []api.Expr {
	var l []api.Expr
	for i := range n {
		l = append(l, nums(i%250))
	}
	return l
}

// limited is expressions, each of which has so many expressions without kids when it is written out.
func limited(n int) map[string]struct {
	g []api.Rule
	e api.Expr
} {
	x := fold("x")
	g := []api.Rule{rule("x", x), rule("xx", seq(ref("x"), ref("x"))), rule("y", rep(10, 10, ref("xx"))), rule("z", rep(3, -1, ref("y")))}
	twice := []api.Rule{rule("a0", rep(25, 25, x))}
	for i := range 7 {
		twice = append(twice, rule(fmt.Sprint("a", i+1), seq(ref(fmt.Sprint("a", i)), ref(fmt.Sprint("a", i)))))
	}
	// filled adds what is missing to n.
	filled := func(e api.Expr, size int) api.Expr { return seq(append(many(n-size), e)...) }
	type limit = struct {
		g []api.Rule
		e api.Expr
	}
	return map[string]limit{
		"a Seq":                            {nil, seq(many(n)...)},
		"an Alt":                           {nil, alt(many(n)...)},
		"Seqs in a Seq":                    {nil, seq(seq(many(n-100)...), seq(many(100)...))},
		"a Seq and an Alt":                 {nil, seq(seq(many(2000)...), alt(many(n-2000)...))},
		"25 in 190":                        {nil, filled(rep(190, 190, rep(25, 25, x)), 4750)},
		"up to 25 in up to 190":            {nil, filled(rep(0, 190, rep(0, 25, x)), 4750)},
		"23 and more in 200":               {nil, filled(rep(200, 200, rep(23, -1, x)), 4800)},
		"100 to 120, in 3 and more":        {nil, filled(rep(3, -1, rep(100, 120, alt(x, x))), 960)},
		"names that stand for other ones":  {g, filled(rep(0, 50, ref("z")), 4000)},
		"a name of much":                   {append(g, rule("w", alt(many(4600)...))), filled(ref("w"), 4600)},
		"names that are doubled":           {twice, filled(ref("a7"), 3200)},
		"options of much":                  {nil, filled(option(seq(many(4500)...)), 4500)},
		"any number of much":               {nil, filled(star(option(rep(1, 1, alt(many(4500)...)))), 4500)},
		"200 of any number":                {nil, filled(rep(200, 200, star(alt(many(4500)...))), 4500)},
		"what never comes, for one":        {nil, filled(rep(0, 0, rep(200, 200, rep(200, 200, x))), 1)},
		"200 of what never comes, for one": {nil, filled(rep(200, 200, rep(150, -1, rep(0, 0, x))), 1)},
		"empty texts":                      {nil, filled(rep(200, 200, rep(20, 20, fold(""))), 4000)},
		"what derives nothing":             {nil, filled(rep(200, 200, rep(20, 20, nums(0xD800))), 4000)},
	}
}

// L1: just 5000 expressions, and one more.
func TestJustSoMany(t *testing.T) {
	for name, x := range limited(api.MaxRe) {
		t.Run(name, func(t *testing.T) {
			regexOf(t, x.g, x.e, true)
			g := append([]api.Rule{rule("whole", x.e)}, x.g...)
			regexOf(t, g, ref("whole"), false)
			regexOf(t, g, star(ref("whole")), false)
			fails(t, g, seq(ref("whole"), fold("")), api.ErrLong)
			fails(t, g, alt(nums(0), ref("whole")), api.ErrLong)
			fails(t, g, rep(2, 2, ref("whole")), api.ErrLong)
			fails(t, g, rep(0, 2, ref("whole")), api.ErrLong)
			fails(t, g, rep(1, -1, ref("whole")), api.ErrLong)
		})
	}
	for name, x := range limited(api.MaxRe + 1) {
		t.Run(name, func(t *testing.T) {
			fails(t, x.g, x.e, api.ErrLong)
			fails(t, append([]api.Rule{rule("whole", x.e)}, x.g...), ref("whole"), api.ErrLong)
		})
	}
	for name, x := range limited(api.MaxRe - 1) {
		t.Run(name, func(t *testing.T) {
			regexOf(t, x.g, seq(x.e, fold("x")), true)
			fails(t, x.g, seq(x.e, alt(fold("x"), fold("y"))), api.ErrLong)
		})
	}
}

// L1: however many signs an expression has, and however many sequences of bytes, it is one expression.
func TestOneIsMany(t *testing.T) {
	regexOf(t, nil, fold(strings.Repeat("ab", 20000)), true)
	regexOf(t, nil, seq(nums(make([]int, 10000)...), fold(strings.Repeat("x", 10000))), true)
	regexOf(t, nil, rep(0, 20, nums(make([]int, 10000)...)), true)
	regexOf(t, nil, rep(200, 200, rep(0, 25, span(0x81, greatest-1))), true)
}

// L1, R1: what is far too many is so at once.
func TestFarTooMany(t *testing.T) {
	x := fold("x")
	for _, around := range []func(api.Expr) api.Expr{
		func(e api.Expr) api.Expr { return rep(200, 200, e) },
		func(e api.Expr) api.Expr { return rep(0, 200, e) },
		func(e api.Expr) api.Expr { return rep(200, -1, e) },
		func(e api.Expr) api.Expr { return rep(1, -1, e) },
		func(e api.Expr) api.Expr { return seq(e, rep(2, 2, x), rep(1, -1, e)) },
		func(e api.Expr) api.Expr { return rep(1, 1, rep(2, 3, option(e))) },
	} {
		fails(t, nil, deep(deep(x, 13, around), 10, option), api.ErrLong)
		fails(t, chain(3000, x, around), ref("a0"), api.ErrLong)
		fails(t, chain(20, x, around), seq(ref("a0"), x), api.ErrLong)
		regexOf(t, chain(3000, x, around), ref("a2999"), true)
	}
	fails(t, chain(100000, x, func(e api.Expr) api.Expr { return seq(e, e) }), ref("a0"), api.ErrLong)
	fails(t, chain(100000, x, func(e api.Expr) api.Expr { return alt(e, seq(e, e), rep(200, 200, e)) }), ref("a0"), api.ErrLong)
	fails(t, chain(100000, x, func(e api.Expr) api.Expr { return seq(e, x) }), ref("a0"), api.ErrLong)
}

// R1: very many names, one behind the other, that make it no longer.
func TestManyNames(t *testing.T) {
	const n = 20000
	x := fold("x")
	for _, c := range []struct {
		around func(api.Expr) api.Expr
		want   string
	}{
		{func(e api.Expr) api.Expr { return e }, "[88-88,120-120]"},
		{func(e api.Expr) api.Expr { return rep(1, 1, e) }, "[88-88,120-120]"},
		{option, "{1|[88-88,120-120]}"},
		{star, "[88-88,120-120]*"},
		{func(e api.Expr) api.Expr { return star(option(star(rep(1, 1, e)))) }, "[88-88,120-120]*"},
		{func(e api.Expr) api.Expr { return rep(3, 5, star(e)) }, "[88-88,120-120]*"},
		{func(e api.Expr) api.Expr { return rep(0, 0, e) }, "1"},
		{func(e api.Expr) api.Expr { return rep(7, 9, rep(0, 0, e)) }, "1"},
	} {
		g := chain(n, x, c.around)
		is(t, g, ref("a0"), c.want)
		// Each of many names is no longer to look through than one.
		r := regexOf(t, g, rep(190, 190, rep(25, 25, alt(ref("a0"), nums(0)))).Kids[0], true)
		for range 25 {
			if c.want == "1" {
				r = deriv.Deriv(r, 0)
			} else {
				r = deriv.Deriv(r, 'x')
			}
		}
		if !deriv.Nullable(r) {
			t.Errorf("25 of %s are not derived", c.want)
		}
		regexOf(t, g, rep(200, 200, rep(25, 25, ref("a0"))), true)
		// A loop that long, and a name without a rule at the end of it.
		loop := append(g[:n:n], rule(fmt.Sprint("a", n), option(ref("a0"))))
		fails(t, loop, ref("a0"), api.ErrLoop)
		fails(t, loop, ref("a7777"), api.ErrLoop)
		fails(t, append(g[:n:n], rule(fmt.Sprint("a", n), alt(ref("a0"), ref("none")))), ref("a0"), api.ErrName)
		fails(t, g[:n], ref("a0"), api.ErrName)
	}
}

// R1: names in names, as deep as the limit lets them be.
func TestDeepNames(t *testing.T) {
	x, y := fold("x"), fold("y")
	for _, c := range []struct {
		around func(api.Expr) api.Expr
		length int
	}{
		{func(e api.Expr) api.Expr { return seq(x, e) }, 4999},
		{func(e api.Expr) api.Expr { return option(seq(x, e)) }, 4999},
		{func(e api.Expr) api.Expr { return star(seq(x, e)) }, 4999},
		{func(e api.Expr) api.Expr { return deep(seq(x, deep(e, 20, option)), 20, star) }, 4999},
		{func(e api.Expr) api.Expr { return alt(y, seq(x, e)) }, 1000},
	} {
		g := chain(c.length, x, c.around)
		r := deriv.Deriv(regexOf(t, g, ref("a0"), true), 'x')
		if deriv.Deriv(r, 'x').Kind == api.None || deriv.Deriv(r, 'z').Kind != api.None {
			t.Errorf("%s, deep: %s", short(g[0]), short(regex.Text(r)))
		}
	}
	fails(t, chain(5000, x, func(e api.Expr) api.Expr { return seq(x, e) }), ref("a0"), api.ErrLong)
}

// L1: ErrLong is returned only if there are more than 5000 expressions, whatever is counted.
func TestLongDrawn(t *testing.T) {
	d := newDraw(1)
	count := map[api.Errno]int{}
	for range 4000 {
		g := d.rules(1+d.IntN(4), 200, true)
		e := d.rep(d.rep(d.rep(ref("a"), 40), 40), 40)
		_, errno := lexeme.Regex(g, e, true)
		size := writtenOut(g, e)
		if errno == api.ErrLong && size <= api.MaxRe || errno != api.ErrLong && size > api.MaxRe {
			t.Errorf("%s of %s: error %d with %d expressions", short(e), short(g), errno, size)
		}
		count[errno]++
	}
	if count[api.OK] < 500 || count[api.ErrLong] < 500 || len(count) > 2 {
		t.Errorf("the errors were %v", count)
	}
}

// writtenOut counts the expressions without kids when all is written out, one by one, but not many more than the limit. What never comes is one, and what comes any number of times is not written again.
func writtenOut(g []api.Rule, e api.Expr) int {
	n := 0
	var write func(e api.Expr)
	write = func(e api.Expr) {
		if n > api.MaxRe {
			return
		}
		switch e.Kind {
		case api.Ref:
			for _, r := range g {
				if r.Name == e.Text {
					write(r.Expr)
					return
				}
			}
		case api.Alt, api.Seq:
			for _, k := range e.Kids {
				write(k)
			}
		case api.Rep:
			kid := frequency(g, e.Kids[0])
			switch {
			case e.Max == 0 || kid == "never":
				n++
			case kid == "any number":
				write(e.Kids[0])
			case e.Max < 0:
				for range e.Min + 1 {
					write(e.Kids[0])
				}
			default:
				for range e.Max {
					write(e.Kids[0])
				}
			}
		default:
			n++
		}
	}
	write(e)
	return n
}

// frequency tells whether an expression is, behind names and repetitions, something that never comes, or comes any number of times.
func frequency(g []api.Rule, e api.Expr) string {
	switch e.Kind {
	case api.Ref:
		for _, r := range g {
			if r.Name == e.Text {
				return frequency(g, r.Expr)
			}
		}
	case api.Rep:
		kid := frequency(g, e.Kids[0])
		switch {
		case e.Max == 0 || kid == "never":
			return "never"
		case e.Min == 0 && e.Max < 0 || kid == "any number":
			return "any number"
		}
	}
	return ""
}
