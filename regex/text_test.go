package regex_test

import (
	"fmt"
	"math"
	"strings"
	"testing"

	"reglet/api"
	"reglet/byteset"
	"reglet/regex"
)

// G1: each kind, with kids and without.
func TestText(t *testing.T) {
	for _, x := range []struct{ re, want string }{
		{"0", "0"}, {"1", "1"}, {"a", "[97-97]"}, {"[]", "[]"}, {"[abc]", "[97-99]"}, {"[ac]", "[97-97,99-99]"}, {"[abcxz]", "[97-99,120-120,122-122]"},
		{"a*", "[97-97]*"}, {"[ac]*", "[97-97,99-99]*"}, {"0*", "0*"}, {"1*", "1*"}, {"[]*", "[]*"}, {"a**", "[97-97]**"}, {"(ab)*", "([97-97][98-98])*"}, {"{a|1}*", "{[97-97]|1}*"},
		{"()", "()"}, {"(0)", "(0)"}, {"(a)", "([97-97])"}, {"(ab)", "([97-97][98-98])"}, {"(ba)", "([98-98][97-97])"}, {"(01a*)", "(01[97-97]*)"}, {"(a(b)())", "([97-97]([98-98])())"}, {"(a*a*)", "([97-97]*[97-97]*)"},
		{"{}", "{}"}, {"{0}", "{0}"}, {"{a}", "{[97-97]}"}, {"{a|b}", "{[97-97]|[98-98]}"}, {"{b|a|b}", "{[98-98]|[97-97]|[98-98]}"}, {"{{}|{a|b}}", "{{}|{[97-97]|[98-98]}}"}, {"{()|1|0|a*}", "{()|1|0|[97-97]*}"},
		{"(a{1|(b{a|c*})*})", "([97-97]{1|([98-98]{[97-97]|[99-99]*})*})"},
	} {
		text(t, re(x.re), x.want)
	}
}

// G1: a Star of no kid and of several.
func TestTextOfStar(t *testing.T) {
	text(t, of(star), "*")
	text(t, of(star, re("a"), re("b")), "[97-97][98-98]*")
	text(t, of(star, re("a"), of(star), re("{a|1}"), of(star, re("0"), re("1"))), "[97-97]*{[97-97]|1}01**")
	text(t, of(cat, of(star), of(star)), "(**)")
	text(t, of(either, of(star), of(star)), "{*|*}")
}

// G1: kinds that are none are told as Either is.
func TestTextOfOtherKinds(t *testing.T) {
	for _, kind := range []int{-1, -2, -3, -4, -5, -6, 6, 7, 8, 9, 10, 255, 256, 260, -252, 1 << 32, 1<<32 + 3, 1 << 40, math.MaxInt, math.MinInt, math.MinInt + 2} {
		text(t, of(kind), "{}")
		text(t, api.Re{Kind: kind, Set: full}, "{}")
		text(t, of(kind, re("a")), "{[97-97]}")
		text(t, of(kind, re("b"), of(kind, re("1"), of(kind)), re("a")), "{[98-98]|{1|{}}|[97-97]}")
		text(t, of(star, of(kind, re("a"), re("b"))), "{[97-97]|[98-98]}*")
	}
}

// G1: what a kind does not have is not told.
func TestTextOfOtherFields(t *testing.T) {
	kids := list("a (b1) 0*")
	text(t, api.Re{Kind: none, Set: full, Kids: kids}, "0")
	text(t, api.Re{Kind: empty, Set: full, Kids: kids}, "1")
	text(t, api.Re{Kind: api.Byte, Kids: kids}, "[]")
	text(t, api.Re{Kind: api.Byte, Set: setOf('q'), Kids: kids}, "[113-113]")
	text(t, api.Re{Kind: star, Set: full, Kids: kids[:1]}, "[97-97]*")
	text(t, api.Re{Kind: cat, Set: full, Kids: kids}, "([97-97]([98-98]1)0*)")
	text(t, api.Re{Kind: either, Set: full, Kids: kids}, "{[97-97]|([98-98]1)|0*}")
}

// G1: a Byte with one range, between all limits.
func TestTextOfRange(t *testing.T) {
	for lo := range 256 {
		for hi := lo; hi < 256; hi++ {
			text(t, api.Re{Kind: api.Byte, Set: byteset.Of(lo, hi)}, fmt.Sprintf("[%d-%d]", lo, hi))
		}
	}
}

// G1: Bytes with all bytes, with several ranges, and with ranges at the ends of words.
func TestTextOfByte(t *testing.T) {
	for _, x := range []struct {
		set  api.Set
		want string
	}{
		{api.Set{}, "[]"}, {full, "[0-255]"}, {setOf(0), "[0-0]"}, {setOf(255), "[255-255]"}, {setOf(0, 255), "[0-0,255-255]"}, {setOf(63, 64), "[63-64]"}, {setOf(63, 65), "[63-63,65-65]"},
		{setOf(9, 10, 11, 99, 100, 101), "[9-11,99-101]"}, {setOf(127, 128, 191, 192), "[127-128,191-192]"}, {setOf(254, 3, 2, 1), "[1-3,254-254]"},
		{api.Set{0, math.MaxUint64, 0, math.MaxUint64}, "[64-127,192-255]"}, {api.Set{math.MaxUint64, 0, math.MaxUint64, 0}, "[0-63,128-191]"},
		{byteset.Turned(setOf('a')), "[0-96,98-255]"}, {byteset.Turned(setOf(0, 255)), "[1-254]"},
	} {
		text(t, api.Re{Kind: api.Byte, Set: x.set}, x.want)
	}
	even := api.Re{Kind: api.Byte, Set: api.Set{0x5555555555555555, 0x5555555555555555, 0x5555555555555555, 0x5555555555555555}}
	got := regex.Text(even)
	if strings.Count(got, "-") != 128 || strings.Count(got, ",") != 127 || !strings.HasPrefix(got, "[0-0,2-2,4-4,") || !strings.HasSuffix(got, ",252-252,254-254]") {
		t.Errorf("even bytes: %s", got)
	}
}

// G1: drawn expressions, held against the model.
func TestTextOfDrawn(t *testing.T) {
	d := newDraw(1)
	for range 20000 {
		r := d.any(4)
		text(t, r, modelText(r))
	}
}

// G1, example 1.
func TestTextOfExample(t *testing.T) {
	a, b := regex.Of(byteset.Of('a', 'a')), regex.Of(byteset.Of('b', 'b'))
	text(t, regex.Either([]api.Re{a, b}), "[97-98]")
	text(t, regex.Cat([]api.Re{{Kind: api.Empty}, regex.Star(a)}), "[97-97]*")
}

// read is a Text read back: the expression that has it, if it is a valid one's.
func read(s string) api.Re {
	r, rest := readItem(s)
	if rest != "" {
		panic(s)
	}
	return r
}

func readItem(s string) (r api.Re, rest string) {
	end := strings.IndexByte(s, ']')
	switch s[0] {
	case '0', '1':
		r, rest = of(int(s[0]-'0')), s[1:]
	case '[':
		r, rest = api.Re{Kind: api.Byte}, s[end+1:]
		for _, between := range strings.Split(s[1:end], ",") {
			lo, hi := number(between[:strings.IndexByte(between, '-')]), number(between[strings.IndexByte(between, '-')+1:])
			r.Set = byteset.Join(r.Set, byteset.Of(lo, hi))
		}
	case '(', '{':
		r, rest = of(map[byte]int{'(': cat, '{': either}[s[0]]), s[1:]
		for rest[0] != ')' && rest[0] != '}' {
			var kid api.Re
			kid, rest = readItem(strings.TrimPrefix(rest, "|"))
			r.Kids = append(r.Kids, kid)
		}
		rest = rest[1:]
	}
	if strings.HasPrefix(rest, "*") {
		return of(star, r), rest[1:]
	}
	return r, rest
}

func number(s string) int {
	n := 0
	for _, c := range s {
		n = 10*n + int(c-'0')
	}
	return n
}

// G1: the text of a valid expression tells which one it is.
func TestTextTellsAll(t *testing.T) {
	d := newDraw(2)
	for range 20000 {
		r := d.valid(5)
		if s := regex.Text(r); !same(read(s), r) {
			t.Errorf("%s: read back from %s", short(r), short(s))
		}
	}
}
