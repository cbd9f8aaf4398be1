package auto_test

import (
	"fmt"
	"math"
	"slices"
	"strings"
	"testing"

	"reglet/api"
	"reglet/auto"
	"reglet/regex"
)

// J1: automata that are written out. Of the classes, the sets are given that make them.
func TestBuild(t *testing.T) {
	for _, x := range []struct {
		l         string
		sets      []string
		next, tag string
	}{
		{"", nil, "[[-1]]", "[0]"},
		{"!", nil, "[[-1]]", "[0]"},
		{"()", nil, "[[-1]]", "[1]"},
		{"! () ()", nil, "[[-1]]", "[2]"},
		{"! ! !", nil, "[[-1]]", "[0]"},
		{".", nil, "[[1] [-1]]", "[0 1]"},
		{".*", nil, "[[0]]", "[1]"},
		{"a", []string{"a"}, "[[-1 1] [-1 -1]]", "[0 1]"},
		{"a*", []string{"a"}, "[[-1 0]]", "[1]"},
		{"a?", []string{"a"}, "[[-1 1] [-1 -1]]", "[1 1]"},
		{"a+", []string{"a"}, "[[-1 1] [-1 1]]", "[0 1]"},
		{"ab", []string{"a", "b"}, "[[-1 1 -1] [-1 -1 2] [-1 -1 -1]]", "[0 0 1]"},
		// The second class goes to a state that is there already.
		{"(aa)*", []string{"a"}, "[[-1 1] [-1 0]]", "[1 0]"},
		{"(ab|ba)*", []string{"a", "b"}, "[[-1 1 2] [-1 -1 0] [-1 0 -1]]", "[1 0 0]"},
		// States are numbered in the order of those that they come from, and of the classes, not of the expressions.
		{"ca|ab|bc", []string{"a", "b", "c"}, "[[-1 1 2 3] [-1 -1 4 -1] [-1 -1 -1 4] [-1 4 -1 -1] [-1 -1 -1 -1]]", "[0 0 0 0 1]"},
		{"baa abb", []string{"a", "b"}, "[[-1 1 2] [-1 -1 3] [-1 4 -1] [-1 -1 5] [-1 6 -1] [-1 -1 -1] [-1 -1 -1]]", "[0 0 0 0 0 2 1]"},
		// The first one that is nullable gives the tag.
		{"a b", []string{"a", "b"}, "[[-1 1 2] [-1 -1 -1] [-1 -1 -1]]", "[0 1 2]"},
		{"a a", []string{"a"}, "[[-1 1] [-1 -1]]", "[0 1]"},
		{"b [ab]", []string{"b", "ab"}, "[[-1 1 2] [-1 -1 -1] [-1 -1 -1]]", "[0 2 1]"},
		{"[ab] b", []string{"b", "ab"}, "[[-1 1 2] [-1 -1 -1] [-1 -1 -1]]", "[0 1 1]"},
		{"a* b* ()", []string{"a", "b"}, "[[-1 1 2] [-1 1 -1] [-1 -1 2]]", "[1 1 2]"},
		{"ab a*", []string{"a", "b"}, "[[-1 1 -1] [-1 2 3] [-1 2 -1] [-1 -1 -1]]", "[2 2 2 1]"},
		// The same expression at another place makes another state.
		{"ac bc", []string{"a", "b", "c"}, "[[-1 1 2 -1] [-1 -1 -1 3] [-1 -1 -1 4] [-1 -1 -1 -1] [-1 -1 -1 -1]]", "[0 0 0 1 2]"},
		// Expressions that derive the same have states of their own, if they are not the same.
		{"a*a*", []string{"a"}, "[[-1 1] [-1 1]]", "[1 1]"},
		{"a!|b", []string{"b"}, "[[-1 1] [-1 -1]]", "[0 1]"},
		// Classes are those of all sets, also of those with the same successors.
		{"a|b|c", []string{"abc"}, "[[-1 1] [-1 -1]]", "[0 1]"},
		{"a b c", []string{"a", "b", "c"}, "[[-1 1 2 3] [-1 -1 -1 -1] [-1 -1 -1 -1] [-1 -1 -1 -1]]", "[0 1 2 3]"},
		{"[abc] [abc]b", []string{"b", "abc"}, "[[-1 1 1] [-1 -1 2] [-1 -1 -1]]", "[0 1 2]"},
		{"a(b(c(d)*)*)*", []string{"a", "b", "c", "d"}, "[[-1 1 -1 -1 -1] [-1 -1 2 -1 -1] [-1 -1 2 3 -1] [-1 -1 2 3 3]]", "[0 1 1 1]"},
	} {
		a := build(t, res(x.l))
		if got := fmt.Sprint(a.Next); got != x.next {
			t.Errorf("%s: successors %s, want %s", x.l, got, x.next)
		}
		if got := fmt.Sprint(a.Tag); got != x.tag {
			t.Errorf("%s: tags %s, want %s", x.l, got, x.tag)
		}
		if a.Class != classes(x.sets...) {
			t.Errorf("%s: classes %v", x.l, a.Class)
		}
	}
}

// J1: a class is one of bytes that are in the same sets, wherever these stand in the list.
func TestClasses(t *testing.T) {
	for x, want := range map[string][256]int{
		"":                            classes(),
		"() ! ()":                     classes(),
		". .* .+":                     classes(),
		"\x00":                        classes("\x00"),
		"\x00*":                       classes("\x00"),
		"\xff":                        classes("\xff"),
		"[\x00\xff] \xff":             classes("\x00\xff", "\xff"),
		"z a m":                       classes("z", "a", "m"),
		"zam":                         classes("z", "a", "m"),
		"z|a|m":                       classes("zam"),
		"(zz)|(aa)|m":                 classes("z", "a", "m"),
		"[abc] [bcd] [cde]":           classes("abc", "bcd", "cde"),
		"([abc]([bcd]([cde])*)*)*":    classes("abc", "bcd", "cde"),
		"([abc][bcd])|([cde][cde])*":  classes("abc", "bcd", "cde"),
		"(x(y(z(w)*)?)+)* (v)*":       classes("v", "w", "x", "y", "z"),
		"[\x7f\x80] \x80 [\x3f\x40]*": classes("\x7f\x80", "\x80", "\x3f\x40"),
	} {
		if a := build(t, res(x)); a.Class != want {
			t.Errorf("%q: classes %v", x, a.Class)
		}
	}
}

// J1: all bytes, each with a class of its own.
func TestAllBytes(t *testing.T) {
	var l []api.Re
	for b := range 256 {
		// Each byte is in two sets, and in none alone.
		l = append(l, regex.Of(setOf(byte(255-b), byte(254-b))))
	}
	a := build(t, l)
	if len(a.Next) != 257 || len(a.Next[0]) != 256 {
		t.Fatalf("%d states", len(a.Next))
	}
	for b := range 256 {
		first := max(254-b, 0)
		if a.Class[b] != b || a.Next[0][b] != b+1 || a.Tag[b+1] != first+1 {
			t.Errorf("byte %d: class %d, successor %d, tag %d", b, a.Class[b], a.Next[0][b], a.Tag[b+1])
		}
	}
}

// asModel holds Build against the chapter's words.
func asModel(t *testing.T, l []api.Re) {
	t.Helper()
	got, e := auto.Build(l)
	want, wanted := modelBuild(l)
	if e != wanted || !equal(got, want) {
		t.Errorf("%s: error %d, want %d\n%s\n%s", short(l), e, wanted, short(got), short(want))
	}
}

// J1: all lists of up to three of some expressions.
func TestBuildOfAll(t *testing.T) {
	pool := res("! () a b [ab] a* ab ba (ab)* a?b [ab]*a (a|b)+b (a*b)* a*b*a* (ab|ba)*a? [abc]*c .")
	asModel(t, nil)
	for _, x := range pool {
		asModel(t, []api.Re{x})
		for _, y := range pool {
			asModel(t, []api.Re{x, y})
			for _, z := range pool {
				asModel(t, []api.Re{x, y, z})
			}
		}
	}
}

// J1: drawn lists.
func TestBuildDrawn(t *testing.T) {
	d := newDraw(1)
	most := 0
	for range 1500 {
		var l []api.Re
		for _, x := range d.patterns(4, 4) {
			l = append(l, re(x))
		}
		if a, _ := auto.Build(l); len(a.Next) < 100 {
			asModel(t, l)
			most = max(most, len(a.Next))
		}
	}
	if most < 30 {
		t.Errorf("of those that were drawn, none had more than %d states", most)
	}
}

// J1: lists of many expressions, of which many are alike.
func TestBuildOfMany(t *testing.T) {
	d := newDraw(2)
	for n := 10; n < 300; n += 7 {
		var l []api.Re
		for range n {
			l = append(l, re(d.pattern(2)))
		}
		if a, _ := auto.Build(l); len(a.Next) < 100 {
			asModel(t, l)
		}
	}
	asModel(t, slices.Repeat(res("ab"), 500))
	asModel(t, append(slices.Repeat(res("!"), 500), re("a*b")))
	asModel(t, slices.Repeat(res("a b c ab ba ca ac bc abc bca"), 30))
}

// J1: an expression that is the same but for its number of digits, or for what is beside it, is another one.
func TestBuildOfManyStates(t *testing.T) {
	var l []api.Re
	for _, x := range words("abc", 4) {
		l = append(l, re(x))
	}
	asModel(t, l)
	slices.Reverse(l)
	asModel(t, l)
	for i := range l {
		l[i] = regex.Cat([]api.Re{re("a*"), l[i]})
	}
	asModel(t, l[:40])
}

// J1: states are the same only if the same expressions stand at the same places, however many there are of these.
func TestStatesThatLookAlike(t *testing.T) {
	const n = 120
	pair := func(x, y int) api.Re {
		return regex.Cat([]api.Re{regex.Of(setOf(byte(x))), regex.Of(setOf(byte(y)))})
	}
	var low, high, lowEnd, highEnd []api.Re
	for i := range n {
		low, high = append(low, pair(i, i)), append(high, pair(n+i, i))
		lowEnd, highEnd = append(lowEnd, pair(i, 255)), append(highEnd, pair(n+i, 255))
	}
	// One expression in each state, at the place 1 or 11.
	l := slices.Repeat(res("!"), 13)
	l[1], l[11] = regex.Either(low), regex.Either(high)
	if a := build(t, l); len(a.Next) != 1+2*n+2 {
		t.Errorf("%d states", len(a.Next))
	}
	// Two in each state, at the places 0 and 12, or 0 and 2.
	l = slices.Repeat(res("!"), 13)
	l[0], l[12], l[2] = regex.Either(slices.Concat(low, high)), regex.Either(lowEnd), regex.Either(highEnd)
	if a := build(t, l); len(a.Next) != 1+2*n+3 {
		t.Errorf("%d states", len(a.Next))
	}
}

// times returns an expression so many times, one after the other.
func times(r api.Re, n int) api.Re {
	return regex.Cat(slices.Repeat([]api.Re{r}, n))
}

// J1: there are 2000 states at most.
func TestStates(t *testing.T) {
	a, b := re("a"), re("b")
	for _, n := range []int{1, 2, 10, 1999} {
		got := build(t, []api.Re{times(a, n)})
		if len(got.Next) != n+1 || len(got.Tag) != n+1 || got.Tag[n] != 1 || slices.Max(got.Tag[:n]) != 0 || got.Next[n-1][1] != n || got.Next[n][1] != -1 {
			t.Errorf("%d times: %d states", n, len(got.Next))
		}
	}
	fails(t, []api.Re{times(a, 2000)}, api.ErrLong)
	// Those of several expressions count together.
	if got := build(t, []api.Re{times(a, 999), times(b, 1000)}); len(got.Next) != 2000 {
		t.Errorf("%d states", len(got.Next))
	}
	fails(t, []api.Re{times(a, 1000), times(b, 1000)}, api.ErrLong)
	// So do those that stand for both.
	for _, x := range []struct{ one, two, states int }{{16, 125, 2000}, {125, 16, 2000}, {27, 74, 1998}, {80, 25, 400}, {1, 500, 500}} {
		if got := build(t, []api.Re{regex.Star(times(a, x.one)), regex.Star(times(a, x.two))}); len(got.Next) != x.states {
			t.Errorf("%d, %d: %d states", x.one, x.two, len(got.Next))
		}
	}
	for _, x := range []struct{ one, two int }{{23, 87}, {87, 23}, {43, 47}, {200, 199}} {
		fails(t, []api.Re{regex.Star(times(a, x.one)), regex.Star(times(a, x.two))}, api.ErrLong)
	}
	// Expressions that are None, and states that are there already, do not count.
	star := regex.Star(times(a, 16))
	if got := build(t, []api.Re{star, re("!"), regex.Star(times(a, 125)), star, re("!")}); len(got.Next) != 2000 {
		t.Errorf("%d states", len(got.Next))
	}
}

// pairs returns Byte by Byte all strings of two of so many bytes, each twice: so many states come from each successor of the first one.
func pairs(n int) api.Re {
	var l []api.Re
	for x := range n {
		for y := range n {
			one, two := regex.Of(setOf(byte(x))), regex.Of(setOf(byte(y)))
			l = append(l, regex.Cat([]api.Re{one, two, one, two}))
		}
	}
	return regex.Either(l)
}

// J1: more than 2000 states by one row, and by few of them.
func TestTooManyAtOnce(t *testing.T) {
	if got := build(t, []api.Re{pairs(30)}); len(got.Next) != 1+30+900+30+1 {
		t.Errorf("%d states", len(got.Next))
	}
	fails(t, []api.Re{pairs(45)}, api.ErrLong)
	fails(t, []api.Re{pairs(60)}, api.ErrLong)
	for n, want := range map[int]api.Errno{5: api.OK, 9: api.OK, 10: api.ErrLong, 11: api.ErrLong, 14: api.ErrLong} {
		if _, e := auto.Build([]api.Re{regex.Cat([]api.Re{re("[ab]*a"), times(re("[ab]"), n)})}); e != want {
			t.Errorf("%d: error %d", n, e)
		}
	}
}

// wrongs are expressions that are not valid.
func wrongs() []api.Re {
	a, b, c := re("a"), re("b"), re("ab")
	of := func(kind int, kids ...api.Re) api.Re { return api.Re{Kind: kind, Kids: kids} }
	return []api.Re{
		of(api.Byte), of(api.Star), of(api.Cat), of(api.Either), of(6), of(-1), of(math.MaxInt), of(math.MinInt), of(1 << 32),
		of(api.None, a), of(api.Empty, a), {Kind: api.Byte, Set: setOf('a'), Kids: []api.Re{a}}, {Kind: api.None, Set: full}, {Kind: api.Empty, Set: full},
		of(api.Star, re("()")), of(api.Star, re("!")), of(api.Star, re("a*")), of(api.Star, a, b), {Kind: api.Star, Set: full, Kids: []api.Re{a}},
		of(api.Cat, a), of(api.Cat, a, re("()")), of(api.Cat, a, re("!")), of(api.Cat, a, c), {Kind: api.Cat, Set: full, Kids: []api.Re{a, a}},
		of(api.Either, a), of(api.Either, a, b), of(api.Either, b, re("!")), of(api.Either, re("()"), c), of(api.Either, c, c), of(api.Either, c, re("a|()")), {Kind: api.Either, Set: full, Kids: []api.Re{c, re("()")}},
	}
}

// J1: an expression that is not valid, wherever it is.
func TestWrongExpressions(t *testing.T) {
	for _, wrong := range wrongs() {
		inside := api.Re{Kind: api.Star, Kids: []api.Re{{Kind: api.Cat, Kids: []api.Re{re("x"), wrong}}}}
		for _, w := range []api.Re{wrong, inside, {Kind: api.Cat, Kids: []api.Re{inside, re("y")}}} {
			fails(t, []api.Re{w}, api.ErrArg)
			for i := range 4 {
				fails(t, slices.Insert(res("a b* ()"), i, w), api.ErrArg)
			}
			// It comes ahead of too many states, and counts also where nothing leads.
			fails(t, []api.Re{times(re("a"), 2500), w}, api.ErrArg)
			fails(t, []api.Re{w, pairs(50)}, api.ErrArg)
		}
		fails(t, append(slices.Repeat(res("a"), 300), wrong), api.ErrArg)
	}
}

// J1: keywords and names, as in grammars of languages.
func TestKeywords(t *testing.T) {
	var keys []string
	d := newDraw(3)
	for range 60 {
		key := ""
		for range 2 + d.IntN(6) {
			key += string(rune('a' + d.IntN(26)))
		}
		if !slices.Contains(keys, key) {
			keys = append(keys, key)
		}
	}
	name := re("[abcdefghijklmnopqrstuvwxyz]+")
	a := build(t, append(res(strings.Join(keys, " ")), name, re("[ \t]+")))
	for i, key := range keys {
		for s, want := range map[string]int{key: i + 1, key + "x": len(keys) + 1, "x" + key: len(keys) + 1, key + " ": i + 1, key + key: len(keys) + 1, " \t" + key: len(keys) + 2} {
			if _, tag := auto.Longest(a, s, 0); tag != want && !slices.Contains(keys, s) {
				t.Errorf("%q: tag %d, want %d", s, tag, want)
			}
		}
	}
}
