package deriv_test

import (
	"slices"
	"strings"
	"testing"

	"reglet/api"
	"reglet/deriv"
	"reglet/regex"
)

// valids are valid expressions, in short form.
var valids = strings.Fields(`0 1 a b c [ab] [abc] [bc] a* [ab]* (ab) (ba) (aa) (abc) (aaa) (a*b) (ab*) (a*a) (aa*) (a*a*) (a*b*c) (a*b*) (a*b*a*) (ab)* (aa)* (aba)* (a*b)* (ab*)* (a*b*)*
	{1|a} {1|a*} {1|[ab]} {a|a*} {(ab)|1} {(ab)|a} {(aa)|(ab)} {(ab)|(ac)|1|a|a*|b*} {(ab)*|(ba)*} {(ab)|(ab)*|(abc)} {1|a}* {(ab)|a}* {(aab)|(ba)}*
	({1|a}b) (a{1|b}) ({1|a}{1|a}) ({1|a}{1|b}c) ((ab)*(ab)*) ((ab)*(ba)*) ([ab]*a) ([ab]*a[ab]) ([ab]*a[ab][ab]) (a*[ab]*) ({1|a}a*) ({(ab)|a}{(bc)|c}) ({(ab)|1}{(ba)|1}a)
	(a(bc)*) (a(bc*)*)* {(a{1|b})|1|{1|a}*} {({(ab)|1}c)|1} (a{({1|b}a)|1}) (a(b(ca*)*)*) ((a*b)*c)* ({(ab)|c}*{1|a})* (a{(a{(ab)|1}b)|1}b)`)

// nullables are expressions that are nullable, and others ones that are not, valid or not.
var (
	nullables = strings.Fields(`1 () (1) (11) a* 0* 1* a** []* ()* {}* (ab)* {a|b}* (a*b*) (a*1) (a*a*a*) (()()) ((a*)(b*)) {1} {1|a} {a|1} {a|1|b} {a|b|1} {0|0|0|1} {1|1} {a|a*} {()} {a|(a*b*)} ({1|a}) ({1|a}{b|1}a*)
		{(ab)|(a*b*)} ({(ab)|1}{(a*{b|1})|c}) {{{{1}}}} ((((1)))) ({({1})})`)
	others = strings.Fields(`0 a [] [abc] (0) (a) (ab) (a1) (1a) (1a1) (a*b) (ba*) (a*b*c) (0a*) (a*0) (1{}) ({}) {} {{}} {0} {a} {a|b} {0|a|[]} {(ab)|c} {(a*b)|(ab*)} (a*{a|b}) ({a|b}{1|a}) ({1|a}{a|b}{1|a})
		((a*b)*{(a*b)|b}) {(1{})|(0)} {{{{a}}}} ((((a)))) ({({a})})`)
)

// H1: each kind.
func TestNullable(t *testing.T) {
	for _, x := range nullables {
		nullable(t, re(x), true)
	}
	for _, x := range others {
		nullable(t, re(x), false)
	}
	nullable(t, api.Re{}, false)
	nullable(t, api.Re{Kind: api.Byte, Set: full}, false)
}

// H1: numbers that are no kinds, whatever the kids.
func TestNullableOfNoKind(t *testing.T) {
	for _, kind := range noKinds {
		for _, kids := range [][]api.Re{nil, {}, list("1"), list("a*"), list("1 1"), list("a"), list("1 a")} {
			nullable(t, of(kind, kids...), false)
			nullable(t, api.Re{Kind: kind, Set: full, Kids: kids}, false)
			nullable(t, of(cat, of(empty), of(kind, kids...)), false)
			nullable(t, of(either, of(kind, kids...)), false)
			nullable(t, of(either, of(kind, kids...), of(empty)), true)
		}
	}
}

// H1: fields that a kind does not have are not looked at.
func TestNullableOfOtherFields(t *testing.T) {
	for _, kids := range [][]api.Re{nil, list("1"), list("1 1"), list("a"), list("0 a")} {
		for _, s := range []api.Set{{}, setOf('a'), full} {
			nullable(t, api.Re{Kind: none, Set: s, Kids: kids}, false)
			nullable(t, api.Re{Kind: empty, Set: s, Kids: kids}, true)
			nullable(t, api.Re{Kind: api.Byte, Set: s, Kids: kids}, false)
			nullable(t, api.Re{Kind: star, Set: s, Kids: kids}, true)
		}
	}
	for _, s := range []api.Set{setOf('a'), full} {
		nullable(t, api.Re{Kind: cat, Set: s}, true)
		nullable(t, api.Re{Kind: cat, Set: s, Kids: list("1 a*")}, true)
		nullable(t, api.Re{Kind: cat, Set: s, Kids: list("1 a")}, false)
		nullable(t, api.Re{Kind: either, Set: s}, false)
		nullable(t, api.Re{Kind: either, Set: s, Kids: list("a 1")}, true)
		nullable(t, api.Re{Kind: either, Set: s, Kids: list("a b")}, false)
	}
}

// H1: a Star of any number of kids, alone and in others.
func TestNullableOfStar(t *testing.T) {
	for _, kids := range [][]api.Re{nil, {}, list("a"), list("0"), list("a b"), list("0 0 0"), {of(6)}, {of(-1), of(star)}} {
		nullable(t, of(star, kids...), true)
		nullable(t, of(cat, of(star, kids...), of(star, kids...)), true)
		nullable(t, of(cat, of(star, kids...), re("a")), false)
		nullable(t, of(either, re("a"), of(star, kids...)), true)
		nullable(t, of(star, of(star, kids...)), true)
	}
}

// H1: of a Cat one kid that is not nullable, and of an Either one that is, wherever it stands.
func TestNullableByOneKid(t *testing.T) {
	for n := 1; n < 8; n++ {
		for i := range n {
			for j := range nullables {
				yes, no := re(nullables[j]), re(others[j%len(others)])
				all := slices.Repeat([]api.Re{yes}, n)
				nullable(t, of(cat, all...), true)
				all[i] = no
				nullable(t, of(cat, all...), false)
				nullable(t, of(either, all...), n > 1)
				all = slices.Repeat([]api.Re{no}, n)
				nullable(t, of(either, all...), false)
				all[i] = yes
				nullable(t, of(either, all...), true)
				nullable(t, of(cat, all...), n == 1)
			}
		}
	}
}

// H1: Cats and Eithers in each other, of all short lists.
func TestNullableOfLists(t *testing.T) {
	pool := list("0 1 a a* () {} (1a) (a1) {1|a} {a|1} {a|b} ({1}{a|1}) {(a)|(1)}")
	pool = append(pool, of(star), of(6, of(empty)))
	lists(pool, 3, func(l []api.Re) {
		c, e := of(cat, l...), of(either, l...)
		for _, r := range []api.Re{c, e, of(cat, c, e), of(either, e, c), of(cat, e, of(empty)), of(either, c, re("a")), of(star, l...)} {
			nullable(t, r, modelNullable(r))
		}
	})
}

// H1: drawn expressions.
func TestNullableOfDrawn(t *testing.T) {
	d := newDraw(1)
	count := 0
	for range 50000 {
		r := d.any(4)
		nullable(t, r, modelNullable(r))
		r = d.valid(4)
		nullable(t, r, derived(r, "", 0)[""])
		if deriv.Nullable(r) {
			count++
		}
	}
	if count < 10000 || count > 40000 {
		t.Errorf("of those that were drawn, %d were nullable", count)
	}
}

// H1: of a valid expression, whether it derives the empty string.
func TestNullableOfValid(t *testing.T) {
	for _, x := range valids {
		if !regex.Right(re(x)) {
			t.Errorf("%s is not valid", x)
		}
		nullable(t, re(x), derived(re(x), "", 0)[""])
		nullable(t, re(x), derives(re(x), ""))
	}
}
