package deriv_test

import (
	"testing"

	"reglet/api"
	"reglet/deriv"
	"reglet/regex"
)

// behind asks that the derivatives of an expression by some letters derive what it derives behind these letters.
func behind(t *testing.T, r api.Re, letters string, longest int) {
	t.Helper()
	all := derived(r, letters, longest+1)
	for _, b := range []byte(letters) {
		d := deriv.Deriv(r, int(b))
		rest := derived(d, letters, longest)
		words(letters, longest, func(s string) {
			if rest[s] != all[string(b)+s] {
				t.Errorf("%s by %c: %s derives %q: %v", short(r), b, short(d), s, rest[s])
			}
		})
	}
}

// H4: the derivative derives what comes behind the byte.
func TestBehind(t *testing.T) {
	for _, x := range valids {
		behind(t, re(x), "abc", 4)
		behind(t, re(x), "ab", 6)
	}
	d := newDraw(6)
	for range 3000 {
		behind(t, d.valid(4), "abc", 3)
	}
	lists(list("1 a b a* (ab) {1|b} {(ba)|1} (a*b)*"), 3, func(l []api.Re) {
		behind(t, regex.Cat(l), "ab", 4)
		behind(t, regex.Star(regex.Cat(l)), "ab", 4)
		behind(t, regex.Either(l), "ab", 3)
		behind(t, regex.Star(regex.Either(l)), "ab", 3)
	})
}

// H4: so by any byte, and for longer strings.
func TestBehindLong(t *testing.T) {
	d := newDraw(7)
	for range 5000 {
		r, s := d.valid(4), d.string(10)
		b := byte(d.IntN(256))
		if d.IntN(2) == 0 {
			s = d.member(r)
			if s == "" || len(s) > 40 {
				continue
			}
			b, s = s[0], s[1:]
		}
		if got, want := derives(deriv.Deriv(r, int(b)), s), derives(r, string([]byte{b})+s); got != want {
			t.Errorf("%s by %d derives %q: %v", short(r), b, s, got)
		}
	}
}

// valid asks that an expression is valid.
func valid(t *testing.T, name string, of, r api.Re) {
	t.Helper()
	if !regex.Right(r) {
		t.Errorf("%s of %s is not valid: %s", name, short(of), short(r))
	}
}

// H4: derivatives of valid expressions are valid, by all bytes.
func TestDerivativesAreValid(t *testing.T) {
	for _, x := range valids {
		for b := -2; b < 258; b++ {
			valid(t, "derivative", re(x), deriv.Deriv(re(x), b))
		}
	}
	d := newDraw(8)
	for range 5000 {
		first := d.valid(5)
		r := first
		for range 6 {
			r = deriv.Deriv(r, int("abc\x00\xff"[d.IntN(5)]))
			valid(t, "derivative of derivatives", first, r)
		}
	}
	lists(list("0 1 a [ab] a* (ab) {1|b} {(ba)|1} (a*b)* {1|a*}"), 3, func(l []api.Re) {
		for _, r := range []api.Re{regex.Cat(l), regex.Either(l), regex.Star(regex.Cat(l)), regex.Star(regex.Either(l))} {
			valid(t, "derivative by a", r, deriv.Deriv(r, 'a'))
			valid(t, "derivative by b", r, deriv.Deriv(r, 'b'))
		}
	})
}

// H4: of the derivatives by all strings there are but so many, as of the states of an automaton.
func TestDerivativesEnd(t *testing.T) {
	for x, most := range map[string]int{"0": 1, "1": 2, "a": 3, "a*": 2, "(ab)*": 3, "(a*b)": 3, "([ab]*a)": 3, "([ab]*a[ab])": 5, "([ab]*a[ab][ab])": 9, "(a*b*c*)": 4, "{1|a}*": 3, "(a(b(ca*)*)*)": 8, "({(ab)|c}*{1|a})*": 12} {
		first := re(x)
		known := map[string]bool{regex.Text(first): true}
		waiting := []api.Re{first}
		for ; len(waiting) > 0 && len(known) < 100; waiting = waiting[1:] {
			for _, b := range []byte("abcd") {
				r := deriv.Deriv(waiting[0], int(b))
				if s := regex.Text(r); !known[s] {
					known[s] = true
					waiting = append(waiting, r)
				}
			}
		}
		if len(known) > most {
			t.Errorf("%s: %d derivatives, not %d at most", x, len(known), most)
		}
	}
}
