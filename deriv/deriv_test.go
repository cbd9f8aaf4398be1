package deriv_test

import (
	"testing"

	"reglet/api"
	"reglet/byteset"
	"reglet/deriv"
	"reglet/regex"
)

// bys asks for the derivative by a letter, in short form.
func bys(t *testing.T, x string, letter byte, want string) {
	t.Helper()
	by(t, re(x), int(letter), re(want))
}

// H2: a Byte, by all bytes, and by numbers that are none.
func TestByByte(t *testing.T) {
	for _, s := range []api.Set{{}, full, setOf(0), setOf(255), setOf('a'), setOf(63, 64), setOf(127, 128, 191, 192), setOf(0, 1, 254, 255), byteset.Turned(setOf('a')), byteset.Turned(setOf(0, 255)), {0x5555555555555555, 0, 0xAAAAAAAAAAAAAAAA, 1}} {
		r := api.Re{Kind: api.Byte, Set: s}
		for b := range 256 {
			if inSet(s, b) {
				by(t, r, b, of(empty))
			} else {
				by(t, r, b, of(none))
			}
		}
		for _, b := range noBytes {
			by(t, r, b, of(none))
		}
	}
	for lo := range 256 {
		r := regex.Of(byteset.Of(lo, lo))
		for b := range 256 {
			if got := deriv.Deriv(r, b).Kind == empty; got != (b == lo) {
				t.Errorf("%d by %d: %v", lo, b, got)
			}
		}
	}
}

// H2: by a number that is no byte every derivative is None.
func TestByNoByte(t *testing.T) {
	all := api.Re{Kind: api.Byte, Set: full}
	l := []api.Re{of(none), of(empty), all, of(star, all), of(cat, all, all), of(cat, of(star, all), all), of(cat, of(star, all), of(star, all)), of(either, of(cat, all, all), of(empty)), of(star, of(cat, of(star, all), all)), of(6, all), of(star), of(cat), of(either)}
	for _, b := range noBytes {
		for _, r := range l {
			by(t, r, b, of(none))
		}
		for _, x := range valids {
			by(t, re(x), b, of(none))
		}
	}
}

// H2: the byte 0 and the byte 255 are bytes as others are.
func TestByFirstAndLastByte(t *testing.T) {
	ends := api.Re{Kind: api.Byte, Set: setOf(0, 255)}
	for _, b := range []int{0, 255} {
		by(t, ends, b, of(empty))
		by(t, of(star, ends), b, of(star, ends))
		by(t, of(cat, ends, re("a")), b, re("a"))
		by(t, of(cat, of(star, re("a")), ends), b, of(empty))
		by(t, of(either, re("(ab)"), of(cat, ends, re("c"))), b, re("c"))
		by(t, re("a"), b, of(none))
	}
}

// H2: None, Empty, and what is of no kind.
func TestByOtherKinds(t *testing.T) {
	for _, kind := range append([]int{none, empty}, noKinds...) {
		for _, kids := range [][]api.Re{nil, {}, list("a"), list("a a"), list("1 a"), list("a*")} {
			for _, s := range []api.Set{{}, setOf('a'), full} {
				r := api.Re{Kind: kind, Set: s, Kids: kids}
				for _, b := range []int{0, 'a', 'b', 255, -1, 256} {
					by(t, r, b, of(none))
					by(t, of(star, r), b, of(none))
					by(t, of(either, r, r), b, of(none))
				}
				if kind != empty {
					by(t, of(cat, r, re("a")), 'a', of(none))
				}
				by(t, of(either, re("a"), r), 'a', of(empty))
			}
		}
	}
	by(t, of(cat, of(empty), re("a")), 'a', of(empty))
	by(t, api.Re{Kind: api.Byte, Set: setOf('a'), Kids: list("b c")}, 'a', of(empty))
	by(t, api.Re{Kind: api.Byte, Set: setOf('a'), Kids: list("b c")}, 'b', of(none))
}

// H2: Either.
func TestByEither(t *testing.T) {
	bys(t, "{(ab)|(cd)}", 'a', "b")
	bys(t, "{(ab)|(cd)}", 'c', "d")
	bys(t, "{(ab)|(cd)}", 'b', "0")
	bys(t, "{(ab)|(ac)}", 'a', "[bc]")
	bys(t, "{(ab)|(ab)}", 'a', "b")
	bys(t, "{(abd)|(acd)}", 'a', "{(bd)|(cd)}")
	bys(t, "{(acd)|(abd)}", 'a', "{(bd)|(cd)}")
	bys(t, "{1|a}", 'a', "1")
	bys(t, "{1|a}", 'b', "0")
	bys(t, "{a|a*}", 'a', "{1|a*}")
	bys(t, "{a*|[ab]}", 'b', "1")
	bys(t, "{(ab)|1|a}", 'a', "{1|b}")
	bys(t, "{(ab)|1|a|a*}", 'a', "{1|a*|b}")
	bys(t, "{(abc)|(ab)*}", 'a', "{(b(ab)*)|(bc)}")
	bys(t, "{(aa)|(ab)|(ac)|(ba)}", 'a', "[abc]")
	// What the kids' derivatives are is put together as Either does it.
	bys(t, "{(a{1|b})|(a{1|c})}", 'a', "{1|[bc]}")
	bys(t, "{(a{(bb)|1})|(a{(bb)|c})}", 'a', "{(bb)|1|c}")
	// Not valid: of no kid, of one, of an Either.
	bys(t, "{}", 'a', "0")
	bys(t, "{a}", 'a', "1")
	bys(t, "{a}", 'b', "0")
	bys(t, "{a|b|a}", 'a', "1")
	bys(t, "{(ab)|{(ac)|1}}", 'a', "[bc]")
	bys(t, "{{}|{{}}}", 'a', "0")
	bys(t, "{(a{{1|b}|c})}", 'a', "{c|{1|b}}")
	bys(t, "{(a{{1|b}|c})|(ad)}", 'a', "{[cd]|{1|b}}")
}

// H2: Star, also of what is not valid.
func TestByStar(t *testing.T) {
	bys(t, "a*", 'a', "a*")
	bys(t, "a*", 'b', "0")
	bys(t, "[ab]*", 'b', "[ab]*")
	bys(t, "(ab)*", 'a', "(b(ab)*)")
	bys(t, "(ab)*", 'b', "0")
	bys(t, "(abc)*", 'a', "(bc(abc)*)")
	bys(t, "{1|a}*", 'a', "{1|a}*")
	bys(t, "{(ab)|a}*", 'a', "({1|b}{(ab)|a}*)")
	bys(t, "(a*b)*", 'a', "(a*b(a*b)*)")
	bys(t, "(a*b)*", 'b', "(a*b)*")
	bys(t, "(a*b*)*", 'a', "(a*b*(a*b*)*)")
	bys(t, "(a*b*)*", 'b', "(b*(a*b*)*)")
	bys(t, "(ab*)*", 'a', "(b*(ab*)*)")
	// Not valid.
	bys(t, "a**", 'a', "(a*a**)")
	bys(t, "a***", 'a', "(a*a**a***)")
	bys(t, "0*", 'a', "0")
	bys(t, "1*", 'a', "0")
	bys(t, "[]*", 'a', "0")
	bys(t, "(a)*", 'a', "(a)*")
	bys(t, "()*", 'a', "0")
	bys(t, "{}*", 'a', "0")
	by(t, api.Re{Kind: star, Set: full, Kids: list("a")}, 'a', api.Re{Kind: star, Set: full, Kids: list("a")})
	by(t, api.Re{Kind: star, Set: full, Kids: list("a")}, 'b', of(none))
	by(t, of(star, re("(ab)"), re("a")), 'a', of(none))
}

// H2: a Star that does not have exactly one kid counts as None, but is nullable.
func TestByStarOfOtherKids(t *testing.T) {
	for _, kids := range [][]api.Re{nil, {}, list("a a"), list("a b c"), list("1 a"), list("a* a*")} {
		wrong := of(star, kids...)
		by(t, wrong, 'a', of(none))
		by(t, of(star, wrong), 'a', of(none))
		by(t, of(either, wrong, re("a")), 'a', of(empty))
		by(t, of(cat, wrong, re("(ab)")), 'a', re("b"))
		by(t, of(cat, wrong, wrong, re("a"), re("a")), 'a', re("a"))
		by(t, of(cat, re("a"), wrong), 'a', wrong)
		by(t, of(cat, re("a*"), wrong, re("b")), 'a', of(cat, re("a*"), wrong, re("b")))
		by(t, of(cat, re("a*"), wrong, re("b")), 'b', of(empty))
	}
}

// H2: Cat, up to and including the first kid that is not nullable.
func TestByCat(t *testing.T) {
	bys(t, "(ab)", 'a', "b")
	bys(t, "(ab)", 'b', "0")
	bys(t, "(abc)", 'a', "(bc)")
	bys(t, "(aab)", 'a', "(ab)")
	bys(t, "([ab]cd)", 'b', "(cd)")
	bys(t, "({(ab)|(cd)}e)", 'c', "(de)")
	bys(t, "({(ab)|(ac)}e)", 'a', "([bc]e)")
	bys(t, "({(ab)|a}e)", 'a', "({1|b}e)")
	bys(t, "(a*b)", 'a', "(a*b)")
	bys(t, "(a*b)", 'b', "1")
	bys(t, "(a*b)", 'c', "0")
	bys(t, "(a*bc)", 'b', "c")
	bys(t, "(a*bc)", 'c', "0")
	bys(t, "(a*a)", 'a', "{(a*a)|1}")
	bys(t, "(a*ab)", 'a', "{(a*ab)|b}")
	bys(t, "({1|a}ab)", 'a', "{(ab)|b}")
	bys(t, "({1|a}{1|a}a)", 'a', "{({1|a}a)|1|a}")
	bys(t, "({1|a}{1|b}c)", 'a', "({1|b}c)")
	bys(t, "({1|a}{1|b}c)", 'b', "c")
	bys(t, "({1|a}{1|b}c)", 'c', "1")
	bys(t, "({1|a}{1|b}ca)", 'a', "({1|b}ca)")
	bys(t, "(a*b*c*a)", 'a', "{(a*b*c*a)|1}")
	bys(t, "(a*b*c*a)", 'b', "(b*c*a)")
	bys(t, "(a*b*c*a)", 'c', "(c*a)")
	bys(t, "(a*b*ca)", 'a', "(a*b*ca)")
	bys(t, "((ab)*c)", 'a', "(b(ab)*c)")
	bys(t, "((ab)*c)", 'c', "1")
	bys(t, "((ab)*ab)", 'a', "{(b(ab)*ab)|b}")
	// The first one that is not nullable stands between the others.
	bys(t, "(a*ba*)", 'a', "(a*ba*)")
	bys(t, "(a*ba*)", 'b', "a*")
	bys(t, "(ba*)", 'a', "0")
	bys(t, "({1|b}cb*)", 'b', "(cb*)")
	// All kids are nullable.
	bys(t, "(a*b*)", 'a', "(a*b*)")
	bys(t, "(a*b*)", 'b', "b*")
	bys(t, "(a*b*)", 'c', "0")
	bys(t, "(a*a*)", 'a', "{(a*a*)|a*}")
	bys(t, "({1|a}{1|a}{1|a})", 'a', "{({1|a}{1|a})|1|a}")
	bys(t, "({1|a}a*)", 'a', "a*")
	bys(t, "({(ab)|1}{(ac)|1})", 'a', "{(b{(ac)|1})|c}")
}

// H2: Cats that are not valid.
func TestByWrongCat(t *testing.T) {
	bys(t, "()", 'a', "0")
	bys(t, "(())", 'a', "0")
	bys(t, "(a)", 'a', "1")
	bys(t, "(a)", 'b', "0")
	bys(t, "(1)", 'a', "0")
	bys(t, "(1a)", 'a', "1")
	bys(t, "(11a)", 'a', "1")
	bys(t, "(1a1)", 'a', "1")
	bys(t, "(0a)", 'a', "0")
	bys(t, "(a0)", 'a', "0")
	bys(t, "(a*0)", 'a', "0")
	bys(t, "(a*0a)", 'a', "0")
	bys(t, "({1|a}a0)", 'a', "0")
	bys(t, "(ab0)", 'a', "0")
	bys(t, "((ab)*(ab))", 'a', "{(b(ab)*ab)|b}")
	bys(t, "((ab)c)", 'a', "(bc)")
	bys(t, "((ab)(ab))", 'a', "(bab)")
	bys(t, "((a*b*)c)", 'b', "(b*c)")
	bys(t, "((a*b*)c)", 'c', "1")
	bys(t, "(a((bc)d))", 'a', "((bc)d)")
	bys(t, "(ab((bc)d))", 'a', "(b(bc)d)")
	bys(t, "(a())", 'a', "1")
	bys(t, "(a{})", 'a', "0")
	bys(t, "(ab{})", 'a', "(b{})")
	bys(t, "(a[])", 'a', "0")
	bys(t, "(ab[])", 'a', "(b[])")
	bys(t, "(a{b})", 'a', "b")
	bys(t, "(a{c|b})", 'a', "[bc]")
	bys(t, "([]a)", 'a', "0")
	bys(t, "({}a)", 'a', "0")
	bys(t, "(()a)", 'a', "1")
	by(t, api.Re{Kind: cat, Set: full, Kids: list("a b c")}, 'a', re("(bc)"))
	by(t, api.Re{Kind: cat, Set: full}, 'a', of(none))
	by(t, of(cat, re("a"), of(6, re("a"))), 'a', of(6, re("a")))
	by(t, of(cat, of(6), re("a")), 'a', of(none))
	by(t, of(cat, re("a"), api.Re{Kind: api.Byte, Set: setOf('b'), Kids: list("c")}), 'a', re("b"))
	by(t, of(cat, re("a"), api.Re{Kind: none, Set: full, Kids: list("c")}), 'a', of(none))
}

// H2: far down in the expression, valid and not.
func TestByFarDown(t *testing.T) {
	bys(t, "(a{({1|b}a)|1})", 'a', "{({1|b}a)|1}")
	bys(t, "{({1|b}a)|1}", 'a', "1")
	bys(t, "{({1|b}a)|1}", 'b', "a")
	bys(t, "(((a*b)*c)*a)", 'a', "{(a*b(a*b)*c((a*b)*c)*a)|1}")
	bys(t, "(((a*b)*c)*a)", 'b', "((a*b)*c((a*b)*c)*a)")
	bys(t, "(((a*b)*c)*a)", 'c', "(((a*b)*c)*a)")
	for _, x := range []struct {
		inner api.Re
		want  api.Re
	}{{of(6, re("a")), of(none)}, {of(star), of(none)}, {of(star, list("a a")...), of(none)}, {re("[]"), of(none)}, {re("{}"), of(none)}, {re("()"), of(none)}, {re("(a)"), of(empty)}, {re("{a}"), of(empty)}} {
		for _, depth := range []int{1, 2, 3, 30} {
			by(t, deep(x.inner, depth, func(r api.Re) api.Re { return of(either, r) }), 'a', x.want)
			by(t, deep(x.inner, depth, func(r api.Re) api.Re { return of(cat, r) }), 'a', x.want)
			by(t, deep(x.inner, depth, func(r api.Re) api.Re { return of(cat, re("b*"), re("1"), r) }), 'a', x.want)
			by(t, deep(x.inner, depth, func(r api.Re) api.Re { return of(either, re("(bb)"), re("1"), r, of(7)) }), 'a', x.want)
			by(t, of(cat, deep(x.inner, depth, func(r api.Re) api.Re { return of(either, of(cat, r)) }), re("c")), 'a', regex.Cat([]api.Re{x.want, re("c")}))
		}
	}
}

// some are expressions, valid and not, of which lists are made.
func some() []api.Re {
	l := list("0 1 a b [ab] [] a* b* (ab) (ba) {1|a} {(ab)|1} (a*b) () (a) (0a) (a1) ((ab)a) {} {b} {0|a} {b|a} {{1|a}|(ab)} 1* a** (ab)*")
	return append(l, of(6, re("a")), of(star), of(star, list("a a")...), api.Re{Kind: star, Set: full, Kids: list("a")}, api.Re{Kind: none, Kids: list("a")}, api.Re{Kind: empty, Set: full}, api.Re{Kind: api.Byte, Set: setOf('a'), Kids: list("b")})
}

// asModel asks that the functions do with an expression what the model does with it.
func asModel(t *testing.T, r api.Re) {
	t.Helper()
	nullable(t, r, modelNullable(r))
	for _, b := range []int{'a', 'b', 'c', 0, 255, -1, 256} {
		by(t, r, b, modelDeriv(r, b))
	}
}

// H1, H2: all short lists of some expressions.
func TestAllLists(t *testing.T) {
	lists(some(), 3, func(l []api.Re) {
		asModel(t, of(cat, l...))
		asModel(t, of(either, l...))
		if len(l) < 3 {
			asModel(t, of(star, l...))
			asModel(t, of(star, of(cat, l...)))
			asModel(t, of(cat, of(star, of(either, l...)), re("a")))
		}
	})
}

// H1, H2: drawn expressions, and the derivatives of their derivatives.
func TestDrawn(t *testing.T) {
	d := newDraw(2)
	for range 10000 {
		asModel(t, d.any(4))
		r := d.valid(4)
		asModel(t, r)
		for range 3 {
			r = deriv.Deriv(r, int("abc"[d.IntN(3)]))
		}
		asModel(t, r)
	}
}

// H2, example 1.
func TestByExample(t *testing.T) {
	a, b := regex.Of(byteset.Of('a', 'a')), regex.Of(byteset.Of('b', 'b'))
	r := regex.Cat([]api.Re{regex.Star(a), b})
	if regex.Text(r) != "([97-97]*[98-98])" {
		t.Errorf("text %s", regex.Text(r))
	}
	by(t, r, 'a', r)
	by(t, r, 'b', of(empty))
}
