package regex_test

import (
	"math"
	"testing"

	"reglet/api"
	"reglet/byteset"
	"reglet/regex"
)

// G2: sets of each size.
func TestOf(t *testing.T) {
	is(t, regex.Of(api.Set{}), "0")
	is(t, regex.Of(setOf('a')), "a")
	is(t, regex.Of(setOf('a', 'c')), "[ac]")
	for lo := range 256 {
		for hi := range 256 {
			s := byteset.Of(lo, hi)
			want := api.Re{Kind: 2, Set: s}
			if hi < lo {
				want = api.Re{}
			}
			if got := regex.Of(s); !same(got, want) {
				t.Errorf("of %d to %d: %v", lo, hi, got)
			}
		}
	}
	for _, s := range []api.Set{full, {0, 0, 0, 1}, {0, 0, 1 << 63, 0}, {0, 1, 0, 0}, {1 << 63, 0, 0, 0}, {1, math.MaxUint64, 0, 1}} {
		if got := regex.Of(s); !same(got, api.Re{Kind: 2, Set: s}) {
			t.Errorf("of %v: %v", s, got)
		}
	}
}

// cats asks for the Cat of a list, both in short form.
func cats(t *testing.T, l, want string) {
	t.Helper()
	if got := regex.Cat(list(l)); !same(got, re(want)) {
		t.Errorf("Cat of %s: %s, want %s", l, short(got), want)
	}
}

// G3: nothing, one expression, several.
func TestCat(t *testing.T) {
	is(t, regex.Cat(nil), "1")
	is(t, regex.Cat([]api.Re{}), "1")
	for _, one := range []string{"0", "1", "a", "[abz]", "(ab)", "(abc)", "{1|a}", "{(ab)|a}", "a*", "(ab)*", "{1|(ab)}*"} {
		cats(t, one, one)
	}
	cats(t, "a b", "(ab)")
	cats(t, "b a", "(ba)")
	cats(t, "a a", "(aa)")
	cats(t, "a b c d", "(abcd)")
	cats(t, "a* a", "(a*a)")
	cats(t, "a a*", "(aa*)")
	cats(t, "a* a*", "(a*a*)")
	cats(t, "{1|a} a* [ab]", "({1|a}a*[ab])")
	cats(t, "{1|a} {1|a}", "({1|a}{1|a})")
}

// G3: a Cat in a Cat.
func TestCatOfCats(t *testing.T) {
	cats(t, "(ab) c", "(abc)")
	cats(t, "a (bc)", "(abc)")
	cats(t, "(ab) (cd)", "(abcd)")
	cats(t, "a (bc) d (ef) g", "(abcdefg)")
	cats(t, "(ab) (ab) (ab)", "(ababab)")
	cats(t, "(a{1|b}) (c*d)", "(a{1|b}c*d)")
	// What is in a Star or in an Either stays there.
	cats(t, "(ab)* c", "((ab)*c)")
	cats(t, "{(ab)|c} c", "({(ab)|c}c)")
	// Those of no kid and of one kid.
	cats(t, "()", "1")
	cats(t, "() ()", "1")
	cats(t, "() a ()", "a")
	cats(t, "(a)", "a")
	cats(t, "(a) (b)", "(ab)")
	cats(t, "(0)", "0")
	cats(t, "(1)", "1")
	cats(t, "(a0)", "0")
	cats(t, "(1a) (1) (b1)", "(ab)")
	// A Cat in one of these is not taken apart again.
	cats(t, "((ab)c)", "((ab)c)")
	cats(t, "((ab)c) d", "((ab)cd)")
	cats(t, "((ab))", "(ab)")
	cats(t, "(((ab)))", "((ab))")
	cats(t, "(())", "()")
	cats(t, "((0)) a", "((0)a)")
	cats(t, "((1)) a", "((1)a)")
	cats(t, "(1(ab)1) 1", "(ab)")
}

// G3: None and Empty, alone and side by side, among others and in a Cat.
func TestCatOfNoneAndEmpty(t *testing.T) {
	for _, l := range []string{"0", "0 0", "0 1", "1 0", "0 a", "a 0", "a 0 b", "a b 0", "0 a b", "1 0 a", "1 a 0 1", "a (b0)", "(0a) b", "(0) a", "a (0) 1", "a* 0", "{1|a} 0", "() 0"} {
		cats(t, l, "0")
	}
	for _, l := range []string{"1", "1 1", "1 1 1", "(1) 1", "() 1", "(11)"} {
		cats(t, l, "1")
	}
	for _, l := range []string{"1 a", "a 1", "1 a 1", "1 1 a 1 1", "(1a) 1", "(11) a", "1 (a)"} {
		cats(t, l, "a")
	}
	cats(t, "1 a b", "(ab)")
	cats(t, "a 1 b", "(ab)")
	cats(t, "a 1 1 b 1", "(ab)")
	cats(t, "1 (ab)", "(ab)")
	cats(t, "1 (ab) 1 c", "(abc)")
	cats(t, "1 {1|a} 1", "{1|a}")
	cats(t, "1 a*", "a*")
	// What derives nothing, or the empty string, but is not None or Empty, stays.
	cats(t, "a []", "(a[])")
	cats(t, "a 0*", "(a0*)")
	cats(t, "a {}", "(a{})")
	cats(t, "a {0}", "(a{0})")
	cats(t, "a {1} 1*", "(a{1}1*)")
}

// eithers asks for the Either of a list, in short form, in all its orders.
func eithers(t *testing.T, l, want string) {
	t.Helper()
	orders(list(l), func(one []api.Re) {
		if got := regex.Either(one); !same(got, re(want)) {
			t.Errorf("Either of %s: %s, want %s", short(one), short(got), want)
		}
	})
}

// G4: nothing, one expression, several.
func TestEither(t *testing.T) {
	is(t, regex.Either(nil), "0")
	is(t, regex.Either([]api.Re{}), "0")
	for _, one := range []string{"0", "1", "a", "[abz]", "(ab)", "(abc)", "{1|a}", "{(ab)|a}", "{(ab)|(ac)|1|a*}", "a*", "(ab)*", "{1|(ab)}*"} {
		eithers(t, one, one)
	}
	eithers(t, "1 a", "{1|a}")
	eithers(t, "a* a", "{a|a*}")
	eithers(t, "(ab) a", "{(ab)|a}")
	eithers(t, "(ab) 1 a {1|a}*", "{(ab)|1|a|{1|a}*}")
	// Texts are compared byte by byte: that of d begins with [100, that of a with [97, and a comma is ahead of a bracket.
	eithers(t, "a* d* c*", "{d*|a*|c*}")
	eithers(t, "(ab) (db) (cb)", "{(db)|(ab)|(cb)}")
	eithers(t, "\x01* \x02* [\x01\x03]*", "{[\x01\x03]*|\x01*|\x02*}")
	eithers(t, "1 (ab) 1*", "{(ab)|1|1*}")
}

// G4: an Either in an Either.
func TestEitherOfEithers(t *testing.T) {
	eithers(t, "{1|a} b", "{1|[ab]}")
	eithers(t, "{1|a} {1|b}", "{1|[ab]}")
	eithers(t, "{1|a} {1|a}", "{1|a}")
	eithers(t, "{1|a} 1", "{1|a}")
	eithers(t, "{1|a} b* (ab)", "{(ab)|1|a|b*}")
	eithers(t, "{(ab)|c} {(ab)|1|d}", "{(ab)|1|[cd]}")
	// What is in a Star or in a Cat stays there.
	eithers(t, "{1|a}* 1", "{1|{1|a}*}")
	eithers(t, "({1|a}b) 1", "{({1|a}b)|1}")
	// Those of no kid and of one kid.
	eithers(t, "{}", "0")
	eithers(t, "{} {}", "0")
	eithers(t, "{} a", "a")
	eithers(t, "{a}", "a")
	eithers(t, "{a} {b}", "[ab]")
	eithers(t, "{0}", "0")
	eithers(t, "{0|a} {0}", "a")
	eithers(t, "{b|1|a|0|1}", "{1|[ab]}")
	// An Either in one of these is not taken apart again.
	eithers(t, "{{1|a}|a}", "{a|{1|a}}")
	eithers(t, "{{1|a}|a} b", "{[ab]|{1|a}}")
	eithers(t, "{{1|a}}", "{1|a}")
	eithers(t, "{{{1|a}}}", "{{1|a}}")
	eithers(t, "{{}}", "{}")
	eithers(t, "{{0}} a", "{a|{0}}")
	eithers(t, "{{1|a}} {1|a}", "{1|a|{1|a}}")
	eithers(t, "{{1|a}} {{1|a}}", "{1|a}")
}

// G4: None is removed, and that alone.
func TestEitherOfNone(t *testing.T) {
	for _, l := range []string{"0", "0 0", "0 0 0", "{0} 0", "{} 0", "[] 0", "[]", "[] []", "{[]|0}"} {
		eithers(t, l, "0")
	}
	for _, l := range []string{"0 a", "0 0 a", "{0|a}", "0 [] a", "a []"} {
		eithers(t, l, "a")
	}
	eithers(t, "0 1", "1")
	eithers(t, "1 1", "1")
	eithers(t, "0 1 a", "{1|a}")
	eithers(t, "0 (ab) (ab)", "(ab)")
	eithers(t, "0 [] 1 (ab)", "{(ab)|1}")
	// What derives nothing but is neither None nor a Byte stays.
	eithers(t, "a (0)", "{(0)|a}")
	eithers(t, "a []*", "{a|[]*}")
}

// G4: Bytes become one.
func TestEitherOfBytes(t *testing.T) {
	eithers(t, "a a", "a")
	eithers(t, "a b", "[ab]")
	eithers(t, "a b c z", "[abcz]")
	eithers(t, "[ab] [bc]", "[abc]")
	eithers(t, "[abcd] b", "[abcd]")
	eithers(t, "a 1 c", "{1|[ac]}")
	eithers(t, "{1|a} c", "{1|[ac]}")
	eithers(t, "[] a 1", "{1|a}")
	eithers(t, "[] 1", "1")
	eithers(t, "a b a* b*", "{a*|[ab]|b*}")
	// Where the one Byte stands follows from the union, not from one that it is made of.
	eithers(t, "a a* d", "{[ad]|a*}")
	eithers(t, "a a* b", "{a*|[ab]}")
	eithers(t, "z d a*", "{[dz]|a*}")
	eithers(t, "d d*", "{d|d*}")
	eithers(t, "z b* \x02", "{[\x02z]|b*}")
	all := make([]api.Re, 256)
	for b := range all {
		all[b] = regex.Of(byteset.Of(255-b, 255-b))
	}
	if got := regex.Either(all); !same(got, api.Re{Kind: 2, Set: full}) {
		t.Errorf("all bytes: %v", got)
	}
	// Of other kinds, no set is looked at.
	spoilt := api.Re{Kind: star, Set: setOf('x'), Kids: list("a")}
	if got := regex.Either([]api.Re{spoilt, re("b")}); !same(got, of(either, spoilt, re("b"))) {
		t.Errorf("a Star with a Set: %v", got)
	}
}

// G4: of several with the same text one is kept, wherever they stand.
func TestEitherOfTheSame(t *testing.T) {
	eithers(t, "(ab) (ab) (ab)", "(ab)")
	eithers(t, "(ab) 1 (ab)", "{(ab)|1}")
	eithers(t, "a* (ab) a* 1 a*", "{(ab)|1|a*}")
	eithers(t, "{(ab)|1} (ab) 1", "{(ab)|1}")
	// The first one is kept: these have the same text, but another Set, another kind, other kids.
	for _, twins := range [][2]api.Re{
		{{Kind: star, Set: full, Kids: list("a")}, re("a*")},
		{of(6, list("a 1")...), of(7, list("a 1")...)},
		{of(-1), of(math.MaxInt)},
		{of(star, list("a b*")...), of(star, of(star, list("a b")...))},
		{of(star, re("a"), re("b")), {Kind: star, Set: setOf('x'), Kids: list("a b")}},
		{{Kind: empty, Kids: list("a")}, re("1")},
		{{Kind: cat, Set: setOf(0), Kids: list("a b")}, re("(ab)")},
		{of(6, list("{1|a}")...), of(8, of(7, list("1 a")...))},
	} {
		for i, first := range twins {
			second := twins[1-i]
			if modelText(first) != modelText(second) {
				t.Fatalf("the texts of %v and %v differ", first, second)
			}
			for _, l := range [][]api.Re{{first, second}, {first, second, second}, {first, of(none), second}, {first, of(either, second, second)}, {of(either, first, second)}} {
				if got := regex.Either(l); !same(got, first) {
					t.Errorf("Either of %v: %v", l, got)
				}
			}
			for _, l := range [][]api.Re{{re("(xy)"), first, second}, {first, re("(xy)"), second}, {of(either, first, re("(xy)")), second}, {of(either, re("(xy)")), first, re("(xy)"), first, second}} {
				if got := regex.Either(l); !same(got, modelEither(l)) || !(same(got.Kids[0], first) || same(got.Kids[1], first)) {
					t.Errorf("Either of %v: %v", l, got)
				}
			}
		}
	}
	// A Byte is kept as the one Byte, without what a Byte does not have.
	spoilt := api.Re{Kind: api.Byte, Set: setOf('a'), Kids: list("b")}
	for _, l := range [][]api.Re{{spoilt}, {spoilt, spoilt}, {spoilt, re("a")}, {re("a"), spoilt}, {of(either, spoilt)}} {
		is(t, regex.Either(l), "a")
	}
	is(t, regex.Either([]api.Re{spoilt, re("c"), re("1")}), "{1|[ac]}")
}

// G4: of many with the same text the first one is kept.
func TestFirstOfMany(t *testing.T) {
	var l []api.Re
	for i := range 100 {
		for _, x := range []string{"a*", "(ab)", "1", "(b{1|a})"} {
			l = append(l, withSet(re(x), api.Set{uint64(i + 1)}))
		}
	}
	d := newDraw(16)
	for range 100 {
		d.Shuffle(len(l), func(i, j int) { l[i], l[j] = l[j], l[i] })
		compare(t, "Either", l, regex.Either(l), modelEither(l))
	}
}

// G4: no other kind has the text of a Byte, so that nothing stands in its way.
func TestByteTextAlone(t *testing.T) {
	d := newDraw(3)
	for range 20000 {
		r := d.any(3)
		s := regex.Text(r)
		if (s[0] == '[' && s[len(s)-1] == ']') != (r.Kind == api.Byte) {
			t.Errorf("%v: %s", r, s)
		}
	}
}

// G4: texts of which one is the beginning of the other are in order too.
func TestEitherOfBeginnings(t *testing.T) {
	eithers(t, "a a* a**", "{a|a*|a**}")
	eithers(t, "(ab) (ab)*", "{(ab)|(ab)*}")
	eithers(t, "1 1* (1)", "{(1)|1|1*}")
	eithers(t, "(ab)* (ab) (abc)", "{(ab)|(ab)*|(abc)}")
	eithers(t, "{1|a}* 1 a", "{1|a|{1|a}*}")
	eithers(t, "[ab]* a* (ab) [abc]", "{(ab)|a*|[ab]*|[abc]}")
}

// G4: many expressions, a list that begins in each order.
func TestManyAlternatives(t *testing.T) {
	d := newDraw(4)
	var l, want []api.Re
	for i := range 2000 {
		l = append(l, of(star, of(cat, regex.Of(byteset.Of(i%250, i%250)), regex.Of(byteset.Of(i/250, i/250)))))
	}
	for _, again := range []bool{false, true} {
		d.Shuffle(len(l), func(i, j int) { l[i], l[j] = l[j], l[i] })
		got := regex.Either(l)
		if want == nil {
			want = got.Kids
		}
		if len(got.Kids) != 2000 || !same(got, of(either, want...)) || !same(got, modelEither(l)) {
			t.Errorf("again %v: %s", again, short(got))
		}
		right(t, got, true)
		l = append(l, l...)
	}
}

// G5: each kind.
func TestStar(t *testing.T) {
	is(t, regex.Star(of(none)), "1")
	is(t, regex.Star(of(empty)), "1")
	for _, x := range []string{"a", "[]", "[abz]", "(ab)", "()", "(0)", "{}", "{1|a}", "{a|a*}", "(a*)", "{a*}", "(a*b*)"} {
		is(t, regex.Star(re(x)), x+"*")
		is(t, regex.Star(re(x+"*")), x+"*")
		is(t, regex.Star(re(x+"**")), x+"**")
		is(t, regex.Star(regex.Star(regex.Star(re(x)))), x+"*")
	}
	for _, r := range []api.Re{of(6), of(-1), of(math.MinInt, re("a")), {Kind: cat, Set: full}, {Kind: api.Byte, Set: full}, {Kind: api.Byte, Set: full, Kids: list("a")}, of(either)} {
		if got := regex.Star(r); !same(got, of(star, r)) {
			t.Errorf("Star of %v: %v", r, got)
		}
	}
	// One that is not valid stays as it is.
	for _, r := range []api.Re{of(star), of(star, list("a b")...), of(star, re("0")), {Kind: star, Set: full, Kids: list("a")}} {
		if got := regex.Star(r); !same(got, r) {
			t.Errorf("Star of %v: %v", r, got)
		}
	}
}

// R2: fields that a result does not have are 0 or empty.
func TestOtherFields(t *testing.T) {
	spoilt := func(kind int) api.Re { return api.Re{Kind: kind, Set: full, Kids: list("a b")} }
	is(t, regex.Star(spoilt(none)), "1")
	is(t, regex.Star(spoilt(empty)), "1")
	is(t, regex.Cat([]api.Re{spoilt(none)}), "0")
	is(t, regex.Cat([]api.Re{re("a"), spoilt(none), spoilt(empty)}), "0")
	is(t, regex.Cat([]api.Re{spoilt(empty)}), "1")
	is(t, regex.Cat([]api.Re{spoilt(cat), spoilt(empty), spoilt(cat)}), "(abab)")
	is(t, regex.Cat([]api.Re{{Kind: cat, Set: full}}), "1")
	is(t, regex.Either([]api.Re{spoilt(none)}), "0")
	is(t, regex.Either([]api.Re{spoilt(either), spoilt(none)}), "[ab]")
	is(t, regex.Either([]api.Re{{Kind: either, Set: full, Kids: list("a 1")}, re("(ab)")}), "{(ab)|1|a}")
	// An expression that is the only one left is returned as it is.
	for kind := -1; kind < 8; kind++ {
		r := spoilt(kind)
		if kind != none && kind != empty && kind != cat {
			if got := regex.Cat([]api.Re{of(empty), r}); !same(got, r) {
				t.Errorf("Cat of %v: %v", r, got)
			}
		}
		if kind != none && kind != api.Byte && kind != either {
			if got := regex.Either([]api.Re{of(none), r, r}); !same(got, r) {
				t.Errorf("Either of %v: %v", r, got)
			}
		}
	}
}
