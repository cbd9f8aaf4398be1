package deriv_test

import (
	"math"
	"runtime/debug"
	"slices"
	"strings"
	"sync"
	"testing"

	"reglet/api"
	"reglet/deriv"
	"reglet/regex"
)

// R1: any kind with any set and any kids has an answer, by any number.
func TestWrong(t *testing.T) {
	kinds := []int{math.MinInt, -1 << 32, -3, -1, 0, 1, 2, 3, 4, 5, 6, 7, 258, 1<<32 + 3, math.MaxInt}
	var l []api.Re
	for _, kind := range kinds {
		for _, s := range []api.Set{{}, setOf('a'), full} {
			for _, kids := range [][]api.Re{nil, {}, {{}}, list("a"), list("1"), list("a 0"), list("b a"), list("(ab) {1|a} a*"), {of(-1), of(9)}} {
				l = append(l, api.Re{Kind: kind, Set: s, Kids: kids})
			}
		}
	}
	for _, a := range l {
		asModel(t, a)
		for _, b := range noBytes {
			by(t, a, b, of(none))
		}
		for _, b := range []api.Re{re("a"), re("1"), re("a*"), of(6), re("{(ab)|1}"), l[0], l[len(l)/2], l[len(l)-1]} {
			for _, kind := range []int{star, cat, either, 6} {
				asModel(t, of(kind, a, b))
				asModel(t, of(kind, b, a, b))
				asModel(t, of(kind, of(cat, a, b), of(either, b, a)))
			}
		}
	}
}

// R1: one thing wrong far down in an expression, wherever it is.
func TestWrongFarDown(t *testing.T) {
	wrongs := append(list("[] 0* 1* a** (a) (a1) (a(bc)) {a} {a|1} {1|1} {1|a|b} {1|{1|a}} () {}"), of(6), of(-1, re("a")), of(star), of(star, list("a b")...), api.Re{Kind: star, Set: full, Kids: list("a")}, api.Re{Kind: api.Byte, Set: full, Kids: list("1")}, api.Re{Kind: empty, Kids: list("a")})
	for _, wrong := range wrongs {
		for _, around := range arounds {
			for _, depth := range []int{1, 2, 3, 7, 20} {
				if !regex.Right(deep(re("a"), depth, around)) {
					t.Errorf("%s: what is around it is not valid", short(deep(re("a"), depth, around)))
				}
				r := deep(wrong, depth, around)
				asModel(t, r)
				asModel(t, of(cat, re("a*"), r, re("b")))
			}
		}
	}
}

// arounds make a valid expression of a Byte, and of what they have made, again and again.
var arounds = []func(api.Re) api.Re{
	func(r api.Re) api.Re { return of(star, of(cat, re("x"), r)) },
	func(r api.Re) api.Re { return of(star, of(cat, r, re("x"))) },
	func(r api.Re) api.Re { return of(star, of(cat, re("x*"), r)) },
	func(r api.Re) api.Re { return of(star, of(cat, re("x*"), r, re("x*"))) },
	func(r api.Re) api.Re { return of(either, of(cat, re("x"), r), re("1")) },
	func(r api.Re) api.Re { return of(either, of(cat, r, re("x")), re("1")) },
	func(r api.Re) api.Re { return of(either, re("(xy)"), of(cat, r, re("x"), re("x*"))) },
	func(r api.Re) api.Re { return of(star, of(either, re("1"), r)) },
	func(r api.Re) api.Re { return of(star, of(either, re("(xy)"), re("1"), r)) },
}

// R1: how deep an expression is is not bounded by Go's stack, and what is deep is not asked again at each level.
func TestDeeperThanStack(t *testing.T) {
	defer debug.SetMaxStack(debug.SetMaxStack(1 << 20))
	const n = 40000
	for _, around := range arounds {
		r := deep(re("a"), n, around)
		want := deriv.Nullable(around(around(re("a"))))
		for _, x := range []struct {
			r    api.Re
			want bool
		}{{r, want}, {of(cat, r, r), want}, {of(cat, r, re("a")), false}, {of(either, r, re("a")), want}, {of(either, r, re("1")), true}, {of(cat, deep(of(empty), n, around), r), want}} {
			if deriv.Nullable(x.r) != x.want {
				t.Errorf("nullable is %v", !x.want)
			}
			if got := deriv.Deriv(x.r, 'z'); !same(got, of(none)) {
				t.Errorf("by z: kind %d", got.Kind)
			}
		}
		if deriv.Match(r, "z") || deriv.Match(r, "") != want {
			t.Errorf("match")
		}
	}
}

// R1: deep expressions that are not valid.
func TestWrongDeeperThanStack(t *testing.T) {
	defer debug.SetMaxStack(debug.SetMaxStack(1 << 20))
	const n = 40000
	for i, around := range []func(api.Re) api.Re{
		func(r api.Re) api.Re { return of(cat, r) },
		func(r api.Re) api.Re { return of(either, r) },
		func(r api.Re) api.Re { return of(cat, of(empty), r) },
		func(r api.Re) api.Re { return of(cat, r, of(empty)) },
		func(r api.Re) api.Re { return of(cat, re("b*"), r, of(cat)) },
		func(r api.Re) api.Re { return of(either, r, re("b")) },
		func(r api.Re) api.Re { return of(either, re("b"), of(cat, r), of(either)) },
		func(r api.Re) api.Re { return of(cat, of(either, r, of(6)), of(star)) },
	} {
		r := deep(re("a"), n, around)
		if deriv.Nullable(r) || !deriv.Nullable(deep(of(empty), n, around)) {
			t.Errorf("%d: nullable", i)
		}
		if got := deriv.Deriv(r, 'z'); !same(got, of(none)) {
			t.Errorf("%d by z: kind %d", i, got.Kind)
		}
		if i != 4 && i != 7 { // these become long
			if got := deriv.Deriv(r, 'a'); !same(got, of(empty)) {
				t.Errorf("%d by a: kind %d", i, got.Kind)
			}
			if !deriv.Match(r, "a") || deriv.Match(r, "aa") || deriv.Match(r, "") {
				t.Errorf("%d: match", i)
			}
		}
	}
	// Other kinds are not gone into.
	for _, kind := range []int{none, empty, api.Byte, 6, -1} {
		r := deep(re("a"), n, func(r api.Re) api.Re { return of(kind, r) })
		nullable(t, of(cat, r), kind == empty)
		if got := deriv.Deriv(r, 'a'); !same(got, of(none)) {
			t.Errorf("kind %d by a: kind %d", kind, got.Kind)
		}
	}
	nullable(t, of(cat, deep(re("a"), n, func(r api.Re) api.Re { return of(star, r) })), true)
	nullable(t, deep(re("a"), n, func(r api.Re) api.Re { return of(star, r, r) }), true)
}

// H2: deep expressions, of which the derivatives are long.
func TestLongDerivatives(t *testing.T) {
	x := re("x")
	for _, n := range []int{1, 2, 3, 10, 300} {
		r, want := re("a"), []api.Re(nil)
		for range n {
			r = of(star, of(cat, r, x))
			want = append(want, x, r)
		}
		by(t, r, 'a', of(cat, want...))
		by(t, of(cat, r, re("b")), 'a', of(cat, append(want, re("b"))...))
		if n <= 10 {
			xs := strings.Repeat("x", n)
			match(t, r, "a"+xs, true)
			match(t, r, "a"+xs[1:], false)
			match(t, r, "a"+xs+"a", false)
			match(t, r, "a"+xs+"a"+xs, true)
		}
	}
}

// R1: lists of any length.
func TestWide(t *testing.T) {
	const n = 300000
	l := slices.Repeat([]api.Re{re("a")}, n)
	nullable(t, of(cat, l...), false)
	nullable(t, of(either, l...), false)
	by(t, of(cat, l...), 'a', of(cat, l[1:]...))
	by(t, of(cat, l...), 'b', of(none))
	by(t, of(either, l...), 'a', of(empty))
	by(t, of(star, of(either, l...)), 'a', of(star, of(either, l...)))
	nullable(t, of(cat, append(slices.Repeat(list("a*"), n), re("b"))...), false)
	nullable(t, of(cat, slices.Repeat(list("a*"), n)...), true)
	nullable(t, of(either, append(l, re("b*"))...), true)
	// Only the last one has a derivative: those ahead of it are not made, each with all that comes behind it.
	by(t, of(cat, append(slices.Repeat(list("a*"), n), re("b"), re("c"))...), 'b', re("c"))
	by(t, of(cat, slices.Repeat(list("a* (ba)*"), n/2)...), 'c', of(none))
	by(t, of(cat, append(slices.Repeat(list("1 a*"), n/2), re("b"))...), 'b', of(empty))
	by(t, of(either, append(slices.Repeat(list("(bb) 1 0"), n/3), re("(ac)"))...), 'a', re("c"))
	match(t, of(cat, l[:3000]...), strings.Repeat("a", 3000), true)
	match(t, of(cat, l[:3000]...), strings.Repeat("a", 2999), false)
	match(t, of(cat, l[:3000]...), strings.Repeat("a", 3001), false)
}

// endless returns expressions that are nested in themselves: at one place, at all, and by way of others.
func endless(r api.Re) []api.Re {
	var l []api.Re
	for i := range r.Kids {
		itself := of(r.Kind, slices.Clone(r.Kids)...)
		itself.Kids[i] = itself
		around := of(r.Kind, slices.Clone(r.Kids)...)
		around.Kids[i] = of(cat, re("x*"), of(either, re("(xy)"), of(empty), around))
		l = append(l, itself, of(cat, re("x*"), itself), of(either, itself, re("x")), around, deep(around, 7, arounds[3]))
	}
	all := of(r.Kind, slices.Clone(r.Kids)...)
	for i := range all.Kids {
		all.Kids[i] = all
	}
	return append(l, all)
}

// R1: an expression that is nested in itself has no end, but a call has.
func TestEndless(t *testing.T) {
	for _, r := range []api.Re{re("a*"), re("(ab)"), re("(a*b*)"), re("(a*b*c)"), re("{1|a}"), re("{(ab)|1|a|a*}"), of(6, list("a b")...), of(star, list("a b")...)} {
		for _, one := range endless(r) {
			for _, b := range []int{'a', 'b', 'x', 'z', -1, 256} {
				deriv.Deriv(one, b)
				deriv.Deriv(of(cat, re("a*"), one, re("b")), b)
				deriv.Deriv(of(either, re("(ab)"), one, one), b)
				deriv.Deriv(deriv.Deriv(one, b), 'a')
			}
			deriv.Nullable(one)
			deriv.Nullable(of(cat, one, one))
			deriv.Nullable(of(either, one, one))
			for _, s := range []string{"", "a", "abxxy", "xyxyxy"} {
				deriv.Match(one, s)
			}
			// What hangs on a kid ahead of it is known.
			nullable(t, of(star, one), true)
			nullable(t, of(star, one, one), true)
			nullable(t, of(either, of(empty), one), true)
			nullable(t, of(cat, re("a"), one), false)
			nullable(t, of(either, of(cat, re("a"), one), of(empty)), true)
			by(t, of(cat, re("a"), one), 'b', of(none))
			by(t, of(cat, re("a"), re("b"), of(6, one)), 'c', of(none))
			by(t, of(6, one), 'a', of(none))
			by(t, of(star, one, one), 'a', of(none))
			by(t, api.Re{Kind: api.Byte, Set: setOf('a'), Kids: []api.Re{one}}, 'a', of(empty))
			if got := deriv.Deriv(of(cat, re("a"), of(6, one), re("b")), 'a'); got.Kind != cat || len(got.Kids) != 2 || got.Kids[0].Kind != 6 || !same(got.Kids[1], re("b")) {
				t.Errorf("what is behind a: kind %d with %d kids", got.Kind, len(got.Kids))
			}
		}
	}
}

// R1: by way of so many others that Go's stack would end.
func TestEndlessDeep(t *testing.T) {
	defer debug.SetMaxStack(debug.SetMaxStack(1 << 20))
	for _, n := range []int{1, 2, 3, 4, 5, 63, 64, 65, 1000, 50000} {
		for _, kind := range []int{star, cat, either, 6} {
			round := make([]api.Re, n)
			for i := range round {
				round[i] = of(kind, round[(i+1)%n:(i+1)%n+1]...)
			}
			for _, r := range []api.Re{round[0], round[n-1], deep(round[0], 12345, arounds[3]), of(cat, re("b*"), round[n/2])} {
				deriv.Nullable(r)
				deriv.Deriv(r, 'a')
				deriv.Match(r, "ab")
			}
		}
		// One that would be valid if one of them were left out.
		round := make([]api.Re, n)
		for i := range round {
			round[i] = re("({(b0)|1}x)*")
		}
		for i := range round {
			round[i].Kids[0].Kids[0].Kids[0].Kids[0] = round[(i+1)%n]
		}
		deriv.Nullable(round[0])
		deriv.Deriv(round[n-1], 'z')
		round[n/2].Kids[0].Kids[0].Kids[0].Kids[0] = re("c")
		nullable(t, round[0].Kids[0], false)
		if got := deriv.Deriv(round[0], 'x'); got.Kind != star {
			t.Errorf("by x: kind %d", got.Kind)
		}
		if got := deriv.Deriv(round[n-1], 'z'); !same(got, of(none)) {
			t.Errorf("by z: kind %d", got.Kind)
		}
	}
}

// H1, H2: an expression that stands in several places is not nested in itself.
func TestShared(t *testing.T) {
	shared := list("a* (ab)*")
	for depth := range 40 {
		r := deep(of(cat, shared...), depth, func(r api.Re) api.Re {
			return of(star, of(cat, append([]api.Re{r, of(either, of(cat, shared...), of(empty))}, shared...)...))
		})
		nullable(t, of(cat, r, r), true)
		nullable(t, of(cat, r, of(cat, r, re("b"))), false)
		by(t, of(cat, r, re("z"), r), 'z', r)
		by(t, of(either, r, of(cat, r, re("z"))), 'z', of(empty))
		if depth < 4 {
			asModel(t, of(cat, r, r))
		}
	}
	r := re("a")
	for range 12 {
		r = of(star, of(cat, r, r, re("b")))
	}
	by(t, of(cat, r, re("z")), 'z', of(empty))
	by(t, r, 'z', of(none))
	// Parts of the same memory, one of them in the other's kids.
	memory := make([]api.Re, 4)
	memory[3] = re("a")
	memory[2] = re("b*")
	memory[1] = of(star, of(cat, memory[2:]...))
	memory[0] = of(star, of(cat, memory[1:]...))
	asModel(t, of(cat, memory...))
	asModel(t, of(either, memory...))
}

// guarded returns an expression in memory of its own, with one more item behind each list.
func guarded(r api.Re) api.Re {
	var kids []api.Re
	for _, k := range r.Kids {
		kids = append(kids, guarded(k))
	}
	r.Kids = slices.Clip(append(kids, of(-77, re("q"))))[:len(r.Kids)]
	return r
}

// untouched holds a guarded expression against what it was, also behind the ends of the lists in it.
func untouched(r, was api.Re) bool {
	n := len(r.Kids)
	return r.Kind == was.Kind && r.Set == was.Set && slices.EqualFunc(r.Kids, was.Kids, untouched) && same(r.Kids[:n+1][n], of(-77, re("q")))
}

// R3: neither an expression that is handed in, nor what is in it or behind it, is changed.
func TestMemory(t *testing.T) {
	asked := func(was api.Re) {
		r := guarded(was)
		for range 2 {
			for _, b := range []int{'a', 'b', 'c', 0, 255, -1} {
				got := deriv.Deriv(r, b)
				if want := modelDeriv(was, b); !same(got, want) {
					t.Errorf("%s by %d again: %s, want %s", short(was), b, short(got), short(want))
				}
				deriv.Deriv(got, 'a')
				deriv.Deriv(deriv.Deriv(got, 'b'), 'a')
				deriv.Nullable(got)
				deriv.Match(got, "ab")
			}
			deriv.Nullable(r)
			deriv.Match(r, "aabbc")
		}
		if !untouched(r, was) {
			t.Fatalf("%s was changed to %s", short(was), short(r))
		}
	}
	d := newDraw(9)
	for range 3000 {
		asked(d.any(4))
		asked(d.valid(4))
	}
	lists(some(), 2, func(l []api.Re) {
		asked(of(cat, l...))
		asked(of(either, l...))
		asked(of(star, l...))
		asked(of(cat, of(star, of(cat, l...)), re("a")))
	})
}

// R3: an answer stays what it is, whatever is asked of it or of what it was made of.
func TestAnswersStay(t *testing.T) {
	d := newDraw(10)
	for range 2000 {
		r := d.valid(4)
		type answer struct{ got, was api.Re }
		var all []answer
		for range 12 {
			got := deriv.Deriv(r, int("abc"[d.IntN(3)]))
			all = append(all, answer{got: got, was: guarded(got)})
			if got.Kind != none {
				r = got
			}
		}
		for _, a := range all {
			if !same(a.got, a.was) {
				t.Errorf("%s became %s", short(a.was), short(a.got))
			}
		}
	}
}

// R4: an answer hangs on nothing but the arguments: not on earlier calls, nor on calls at the same time.
func TestNoState(t *testing.T) {
	type call struct {
		r, deriv        api.Re
		b               int
		s               string
		nullable, match bool
	}
	d := newDraw(11)
	var calls []call
	for i := range 600 {
		c := call{r: d.valid(4), b: int("abc"[d.IntN(3)]), s: d.string(6)}
		if i%4 == 0 {
			c.r = d.any(3)
		}
		c.deriv, c.nullable, c.match = deriv.Deriv(c.r, c.b), deriv.Nullable(c.r), deriv.Match(c.r, c.s)
		calls = append(calls, c)
	}
	var group sync.WaitGroup
	for i := range 8 {
		group.Go(func() {
			for j := range calls {
				c := calls[(j*(2*i+1))%len(calls)]
				if !same(deriv.Deriv(c.r, c.b), c.deriv) || deriv.Nullable(c.r) != c.nullable || deriv.Match(c.r, c.s) != c.match {
					t.Errorf("%s: another answer", short(c.r))
				}
			}
		})
	}
	group.Wait()
}

// R1: what calls of this layer make, others of this layer and of layer 7 take.
func TestAnswersAreTaken(t *testing.T) {
	d := newDraw(12)
	for range 3000 {
		r := d.any(4)
		for range 4 {
			r = deriv.Deriv(r, int("abc"[d.IntN(3)]))
			regex.Right(r)
			regex.Text(r)
			asModel(t, r)
		}
	}
}
