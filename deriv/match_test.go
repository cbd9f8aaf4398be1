package deriv_test

import (
	"fmt"
	"slices"
	"strings"
	"testing"

	"reglet/api"
	"reglet/deriv"
	"reglet/regex"
)

// matches asks which strings, with blanks between them, an expression in short form matches, and which not. The empty string is written as -.
func matches(t *testing.T, x, yes, no string) {
	t.Helper()
	for _, s := range strings.Fields(yes) {
		match(t, re(x), strings.TrimPrefix(s, "-"), true)
	}
	for _, s := range strings.Fields(no) {
		match(t, re(x), strings.TrimPrefix(s, "-"), false)
	}
}

// H3: expressions of each kind.
func TestMatch(t *testing.T) {
	matches(t, "0", "", "- a b ab")
	matches(t, "1", "-", "a b ab")
	matches(t, "a", "a", "- b aa ab ba A")
	matches(t, "[ac]", "a c", "- b ac aa")
	matches(t, "a*", "- a aa aaa aaaaaaaaaa", "b ab ba aba aab aaaaaaaaab")
	matches(t, "[ab]*", "- a b ab ba aabbab", "c ac abc abcab")
	matches(t, "(ab)", "ab", "- a b ba abb aab aba")
	matches(t, "(abc)", "abc", "- a ab bc abcc aabc ac")
	matches(t, "(a*b)", "b ab aab", "- a aba ba bb")
	matches(t, "(a*a)", "a aa aaa", "- b ab ba")
	matches(t, "(a*b*)", "- a b ab aabb aaa bbb", "ba aba abab")
	matches(t, "(ab)*", "- ab abab ababab", "a b ba aba abb abaab")
	matches(t, "{1|a}", "- a", "b aa")
	matches(t, "{(ab)|(ac)|1|b*}", "- ab ac b bb bbb", "a abb aca ba")
	matches(t, "({1|a}{1|b}c)", "c ac bc abc", "- a ab bac aac abcc")
	matches(t, "([ab]*a[ab])", "aa ab baa bab aaaab bbbab", "- a b ba bb bbba abbbb")
	matches(t, "{(ab)|a}*", "- a ab aab aba abab aaaa", "b ba abb abba")
	matches(t, "(((a*b)*c)*a)", "a ca bca abca aabbccca", "- c ab aba caa abcb aabbcaca")
	matches(t, "({(ab)|c}*{1|a})*", "- a ab aab ca caab aaa", "b bb abb cb")
}

// H3: the string must be derived to its end, and not beyond it.
func TestMatchShortAndLong(t *testing.T) {
	for _, s := range []string{"a", "ab", "abcabc", "\x00", "\xff\x00\xff", "a\xc3\xa9b", strings.Repeat("ab\x00", 50)} {
		var l []api.Re
		for i := range len(s) {
			l = append(l, api.Re{Kind: api.Byte, Set: setOf(s[i])})
		}
		r := regex.Cat(l)
		match(t, r, s, true)
		match(t, r, s[:len(s)-1], false)
		match(t, r, s[1:], false)
		match(t, r, s+s[:1], false)
		match(t, r, s[:1]+s, false)
		match(t, r, "", false)
		match(t, r, s+"\x00", false)
		match(t, r, s+s, false)
		match(t, regex.Star(r), s+s, true)
		match(t, regex.Star(r), s+s+s[:1], len(s) == 1)
		match(t, regex.Star(r), "", true)
		for i := range len(s) {
			other := []byte(s)
			other[i] ^= 0x80
			match(t, r, string(other), false)
		}
	}
}

// H3: strings of all bytes, and not of the runes in them.
func TestMatchBytes(t *testing.T) {
	all := make([]byte, 256)
	for b := range all {
		all[b] = byte(b)
	}
	any := api.Re{Kind: api.Byte, Set: full}
	match(t, of(star, any), string(all), true)
	match(t, regex.Cat(slices.Repeat([]api.Re{any}, 256)), string(all), true)
	match(t, regex.Cat(slices.Repeat([]api.Re{any}, 255)), string(all), false)
	match(t, regex.Cat(slices.Repeat([]api.Re{any}, 257)), string(all), false)
	for b := range 256 {
		one := string(all[b : b+1])
		match(t, any, one, true)
		match(t, api.Re{Kind: api.Byte, Set: setOf(byte(b))}, one, true)
		match(t, api.Re{Kind: api.Byte, Set: setOf(byte(b + 1))}, one, false)
		but := api.Re{Kind: star, Kids: []api.Re{{Kind: api.Byte, Set: setOf(slices.Concat(all[:b], all[b+1:])...)}}}
		match(t, but, one, false)
		match(t, but, string(all), false)
		match(t, but, string(all[:b])+string(all[b+1:]), true)
	}
	match(t, any, "\u00e9", false)
	match(t, of(cat, any, any), "\u00e9", true)
	match(t, of(cat, any, any), "\U0001f600", false)
	match(t, of(cat, any, any, any, any), "\U0001f600", true)
	match(t, of(star, re("a")), "a\xffa", false)
}

// H3: all short strings, by the strings that an expression derives.
func TestMatchShortStrings(t *testing.T) {
	asked := func(r api.Re, letters string, longest int) {
		all := derived(r, letters, longest)
		words(letters, longest, func(s string) { match(t, r, s, all[s]) })
	}
	for _, x := range valids {
		asked(re(x), "abc", 5)
		asked(re(x), "ab", 6)
	}
	d := newDraw(3)
	count := 0
	for range 1000 {
		r := d.valid(4)
		asked(r, "abc", 4)
		if len(derived(r, "abc", 4)) > 1 {
			count++
		}
	}
	if count < 350 {
		t.Errorf("of those that were drawn, %d derived several strings", count)
	}
}

// H3: all expressions that some functions make of a few others.
func TestMatchOfAll(t *testing.T) {
	pool := list("1 a b a* (ab) {1|b} {(ba)|1} (a*b)*")
	lists(pool, 3, func(l []api.Re) {
		for _, r := range []api.Re{regex.Cat(l), regex.Either(l), regex.Star(regex.Cat(l)), regex.Star(regex.Either(l))} {
			all := derived(r, "ab", 4)
			words("ab", 4, func(s string) { match(t, r, s, all[s]) })
		}
	})
}

// H3: longer strings that are drawn, and that are derived with one letter more, less, or another one.
func TestMatchLongStrings(t *testing.T) {
	d := newDraw(4)
	yes := 0
	for range 5000 {
		r := d.valid(4)
		s := d.string(12)
		if t := d.member(r); len(t) < 40 && d.IntN(2) == 0 {
			s = t
		}
		if s != "" {
			at := d.IntN(len(s))
			s = []string{s, s, s[:at] + s[at+1:], s[:at] + "b" + s[at:], s[:at] + "a" + s[at+1:], s[:at]}[d.IntN(6)]
		}
		want := derives(r, s)
		match(t, r, s, want)
		if want && s != "" {
			yes++
		}
	}
	if yes < 500 {
		t.Errorf("of those that were drawn, %d matched", yes)
	}
}

// member draws a string that a valid expression derives, unless it comes upon None.
func (d draw) member(r api.Re) string {
	switch r.Kind {
	case api.Byte:
		for {
			if b := d.IntN(256); inSet(r.Set, b) {
				return string([]byte{byte(b)})
			}
		}
	case either:
		return d.member(r.Kids[d.IntN(len(r.Kids))])
	}
	s := ""
	for _, k := range r.Kids {
		s += d.member(k)
		for r.Kind == star && d.IntN(3) > 0 {
			s += d.member(k)
		}
	}
	return s
}

// H3: long strings.
func TestMatchVeryLong(t *testing.T) {
	const n = 30000
	a, word, list := re("[ab]*"), re("(ab)*"), re("({(ab)|c}*{1|a})*")
	match(t, a, strings.Repeat("ab", n), true)
	match(t, a, strings.Repeat("ab", n)+"c", false)
	match(t, a, "c"+strings.Repeat("ab", n), false)
	match(t, word, strings.Repeat("ab", n), true)
	match(t, word, strings.Repeat("ab", n)+"a", false)
	match(t, list, strings.Repeat("abca", n/10), true)
	match(t, list, strings.Repeat("abca", n/10)+"bb", false)
	match(t, re("([ab]*a[ab][ab])"), strings.Repeat("abb", n/10), true)
	match(t, re("([ab]*a[ab][ab])"), strings.Repeat("abb", n/10)+"b", false)
	match(t, of(none), strings.Repeat("a", 1<<24), false)
	match(t, re("(ab)"), "b"+strings.Repeat("a", 1<<24), false)
}

// H3: an expression as a token has it: a string in quotes.
func TestMatchOfToken(t *testing.T) {
	char := regex.Of(api.Set{^uint64(1 << '"'), ^uint64(1 << ('\\' - 64)), ^uint64(0), ^uint64(0)})
	escape := regex.Cat([]api.Re{re("\\"), regex.Of(setOf('"', '\\', 'n'))})
	quoted := regex.Cat([]api.Re{re("\""), regex.Star(regex.Either([]api.Re{char, escape})), re("\"")})
	for s, want := range map[string]bool{`""`: true, `"a"`: true, `"\""`: true, `"\\"`: true, `"\n\n"`: true, "\"\xe2\x82\xac\"": true, `"`: false, ``: false, `a`: false, `"a`: false, `"\"`: false, `"\a"`: false, `"a"b`: false, `"a""b"`: false} {
		match(t, quoted, s, want)
	}
}

// H3: Match is Nullable of the derivative by all bytes; for what is not valid too.
func TestMatchByDerivatives(t *testing.T) {
	d := newDraw(5)
	for range 5000 {
		first := d.any(3)
		s, r := d.string(4), first
		for _, b := range []byte(s) {
			r = deriv.Deriv(r, int(b))
		}
		match(t, first, s, deriv.Nullable(r))
	}
	for _, kind := range noKinds {
		for _, s := range []string{"", "a", "ab"} {
			match(t, of(kind, re("a")), s, false)
			match(t, of(either, of(kind, re("a")), re("(ab)")), s, s == "ab")
			match(t, of(cat, of(kind), re("(ab)")), s, false)
		}
	}
	for _, s := range []string{"", "a", "aa"} {
		match(t, of(star), s, s == "")
		match(t, of(star, list("a a")...), s, s == "")
		match(t, of(cat, of(star), re("a")), s, s == "a")
		match(t, of(cat), s, s == "")
		match(t, of(either), s, false)
		match(t, api.Re{Kind: api.Byte}, s, false)
		match(t, api.Re{Kind: api.Byte, Set: setOf('a'), Kids: list("a")}, s, s == "a")
		match(t, api.Re{Kind: empty, Set: full, Kids: list("a")}, s, s == "")
		match(t, api.Re{Kind: none, Set: full, Kids: list("a")}, s, false)
	}
	if got := fmt.Sprint(deriv.Match(api.Re{}, ""), deriv.Match(api.Re{}, "a")); got != "false false" {
		t.Errorf("the zero value: %s", got)
	}
}
