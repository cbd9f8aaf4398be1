package reader_test

import (
	"math/rand/v2"
	"regexp"
	"slices"
	"strconv"
	"strings"
	"testing"

	"reglet/api"
	"reglet/reader"
)

// form is the chapter's grammar in another manner than the program's: it returns all places at which what begins at a place may end.
type form func(text string, at int) []int

func isIn(bytes string) func(byte) bool {
	return func(c byte) bool { return strings.IndexByte(bytes, c) >= 0 }
}

func between(lo, hi byte) func(byte) bool {
	return func(c byte) bool { return lo <= c && c <= hi }
}

func one(wanted func(byte) bool) form {
	return func(text string, at int) []int {
		if at < len(text) && wanted(text[at]) {
			return []int{at + 1}
		}
		return nil
	}
}

// longest is for what is read as long as possible: at least one byte.
func longest(wanted func(byte) bool) form {
	return func(text string, at int) []int {
		end := at
		for end < len(text) && wanted(text[end]) {
			end++
		}
		if end == at {
			return nil
		}
		return []int{end}
	}
}

func end(text string, at int) []int {
	if at == len(text) {
		return []int{at}
	}
	return nil
}

func followed(f form) form {
	return func(text string, at int) []int {
		if len(f(text, at)) > 0 {
			return []int{at}
		}
		return nil
	}
}

func then(forms ...form) form {
	return func(text string, at int) []int {
		ends := []int{at}
		for _, f := range forms {
			var further []int
			for _, e := range ends {
				further = append(further, f(text, e)...)
			}
			slices.Sort(further)
			ends = slices.Compact(further)
		}
		return ends
	}
}

func or(forms ...form) form {
	return func(text string, at int) []int {
		var ends []int
		for _, f := range forms {
			ends = append(ends, f(text, at)...)
		}
		slices.Sort(ends)
		return slices.Compact(ends)
	}
}

func maybe(f form) form {
	return or(then(), f)
}

func anyNumber(f form) form {
	return func(text string, at int) []int {
		ends := []int{at}
		for i := 0; i < len(ends); i++ {
			for _, e := range f(text, ends[i]) {
				if !slices.Contains(ends, e) {
					ends = append(ends, e)
				}
			}
		}
		return ends
	}
}

// only leaves out the ends between which and the beginning stands what is not wanted.
func only(wanted func(string) bool, f form) form {
	return func(text string, at int) []int {
		return slices.DeleteFunc(f(text, at), func(e int) bool { return !wanted(text[at:e]) })
	}
}

// ordered reports whether the first of two numbers with a sign between them is not greater than the second one.
func ordered(base int) func(string) bool {
	return func(s string) bool {
		parts := strings.FieldsFunc(s, func(c rune) bool { return c == '*' || c == '-' })
		lo, _ := strconv.ParseInt(parts[0], base, 64)
		hi, _ := strconv.ParseInt(parts[1], base, 64)
		return lo <= hi
	}
}

func sign(s string) form { return one(isIn(s)) }

const (
	small   = "abcdefghijklmnopqrstuvwxyz"
	capital = "ABCDEFGHIJKLMNOPQRSTUVWXYZ"
)

// grammars returns the form of a whole text, limits aside.
func grammars() form {
	blank := sign(" \t")
	comment := then(sign(";"), anyNumber(or(blank, one(between(33, 126)))))
	lineEnd := then(maybe(comment), or(sign("\n"), then(sign("\r"), sign("\n")), end))
	space := anyNumber(or(blank, then(lineEnd, followed(blank))))
	gap := then(or(blank, then(lineEnd, followed(blank))), space)
	name := then(sign(small+capital), maybe(longest(isIn(small+capital+"0123456789-"))))
	number := func(digits string) form { return longest(isIn(digits)) }
	var alternatives form
	inBrackets := func(text string, at int) []int { return then(space, alternatives, space)(text, at) }
	quoted := then(sign(`"`), anyNumber(one(func(c byte) bool { return between(32, 126)(c) && c != '"' })), sign(`"`))
	numbers := func(letters, digits string, base int) form {
		n := number(digits)
		return then(sign(letters), or(only(ordered(base), then(n, sign("-"), n)), then(n, anyNumber(then(sign("."), n)))))
	}
	special := then(sign("%"), or(then(sign("isIS"), quoted), numbers("bB", "01", 2),
		numbers("dD", "0123456789", 10), numbers("xX", "0123456789abcdefABCDEF", 16)))
	element := or(name, then(sign("("), inBrackets, sign(")")), then(sign("["), inBrackets, sign("]")), quoted, special)
	count := number("0123456789")
	counts := or(then(), count, then(sign("*"), maybe(count)), then(count, sign("*")), only(ordered(10), then(count, sign("*"), count)))
	repetition := then(counts, element)
	concatenation := then(repetition, anyNumber(then(gap, repetition)))
	alternatives = then(concatenation, anyNumber(then(space, sign("/"), space, concatenation)))
	rule := then(name, space, sign("="), maybe(sign("/")), space, alternatives, space, lineEnd)
	empty := then(anyNumber(blank), lineEnd)
	return then(anyNumber(or(rule, empty)), end)
}

// hasForm asks that a text that breaks no limit is an error exactly if it has not the form.
func hasForm(t *testing.T, f form, text string) {
	t.Helper()
	want := api.ErrForm
	if len(f(text, 0)) > 0 {
		want = api.OK
	}
	if l, e := reader.Read(text); e != want || e != api.OK && len(l) != 0 {
		t.Errorf("%q: error %d, want %d, rules %s", text, e, want, short(l))
	}
}

// allTexts calls for each text of at most n parts.
func allTexts(n int, parts []string, call func(string)) {
	var grow func(string, int)
	grow = func(text string, n int) {
		call(text)
		for _, p := range parts {
			if n > 0 {
				grow(text+p, n-1)
			}
		}
	}
	grow("", n)
}

// C1: every short text of some parts is read exactly if it has the grammar's form.
func TestAllShortTexts(t *testing.T) {
	f := grammars()
	for _, set := range []struct {
		head, parts, tail string
		n                 int
	}{
		{"", "a|=|/| |\n|\r|;", "", 5},
		{"a=", "b|0|*|/|(|)|[|]| |\n|;|\"|%x|-|.|%s|\r\n|1", "", 3},
		{"a=", "b|0|*|/|(|)| |\n ", "", 4},
		{"a=(", "b|[|]|)| |/|;\n ", "", 5},
		{"a=", "b|0|1|*", "b", 3},
		{"a=%x0", "0|.|-| |b|%x0", "", 5},
		{"a=b", " |\n|\r|;|c|\t", "c", 4},
		{"a=b", " |\n|\r\n|;|c|/", "\n d", 4},
		{"a", " |\n|\r|;|=|\t", "=b", 4},
		{"a=b\n", " |\n|\r|;|\t|c|=", "c=d", 4},
		{"a=\"", "\"| |%i|%s|;|\n|x", "\"", 4},
	} {
		allTexts(set.n, strings.Split(set.parts, "|"), func(text string) {
			hasForm(t, f, set.head+text+set.tail)
		})
	}
}

// C1: texts that end too early, and texts in which something is wrong, anywhere.
func TestSpoiltTexts(t *testing.T) {
	f := grammars()
	l := layout{rand.New(rand.NewPCG(3, 20))}
	// No text shall break a limit, also when numbers come together or become names: so their digits are made few zeros.
	digits := func(c rune) rune {
		if c >= '1' && c <= '9' {
			return '0'
		}
		return c
	}
	zeros := regexp.MustCompile("000+")
	hexadecimal := regexp.MustCompile("%[xX][0-9a-fA-F]*[-.0-9a-fA-F]*")
	for range 150 {
		text := zeros.ReplaceAllString(strings.Map(digits, l.text(l.rules(1+l.IntN(2), 2))), "00")
		text = hexadecimal.ReplaceAllStringFunc(text, func(s string) string { return s[:2] + "0A" })
		hasForm(t, f, text)
		for range 20 {
			at := l.IntN(len(text) + 1)
			hasForm(t, f, text[:at])
			hasForm(t, f, text[at:])
			hasForm(t, f, text[:at]+l.spoil()+text[at:])
			to := min(len(text), at+1+l.IntN(3))
			hasForm(t, f, text[:at]+text[to:])
			hasForm(t, f, text[:at]+l.spoil()+text[to:])
		}
	}
}

// spoil returns a byte, more often one that a grammar may have.
func (l layout) spoil() string {
	if l.IntN(4) == 0 {
		c := byte(l.IntN(256))
		if between('1', '9')(c) {
			c = '0'
		}
		return string([]byte{c})
	}
	return l.of("a", "0", "-", "=", "/", "(", ")", "[", "]", "*", "%", "\"", ";", " ", "\t", "\n", "\r", "\r\n", "%x", "%d0", ".", "=/", "\n ", "X")
}
