package auto_test

import (
	"math/rand/v2"
	"runtime/debug"
	"slices"
	"sync"
	"testing"

	"reglet/api"
	"reglet/auto"
	"reglet/regex"
)

// R1: how deep an expression is is not bounded by Go's stack.
func TestDeeperThanStack(t *testing.T) {
	defer debug.SetMaxStack(debug.SetMaxStack(8 << 20))
	star := func(r api.Re) api.Re { return api.Re{Kind: api.Star, Kids: []api.Re{r}} }
	cat := func(l ...api.Re) api.Re { return api.Re{Kind: api.Cat, Kids: l} }
	deep, wrong := re("x"), re("()")
	for range 100000 {
		deep, wrong = star(cat(re("y"), deep)), star(cat(re("y"), wrong))
	}
	fails(t, []api.Re{re("a"), wrong}, api.ErrArg)
	// There are too many states of the other one before those of the deep one are gone into.
	fails(t, []api.Re{pairs(50), deep}, api.ErrLong)
	fails(t, []api.Re{deep, pairs(50)}, api.ErrLong)
}

// J1: deep expressions, with as many states.
func TestDeep(t *testing.T) {
	const n = 200
	r := re("a")
	for range n {
		r = regex.Either([]api.Re{regex.Cat([]api.Re{r, re("x")}), re("()")})
	}
	a := build(t, []api.Re{r})
	if !auto.Right(a) || len(a.Next) < 2*n {
		t.Errorf("%d states", len(a.Next))
	}
	s := "a"
	for i := range n + 5 {
		want := 0
		if i == n {
			want = 1
		}
		if got := modelTag(a, s); got != want {
			t.Errorf("a and %d times x: %d", i, got)
		}
		if got := modelTag(a, s[1:]); (got == 1) != (i < n) {
			t.Errorf("%d times x: %d", i, got)
		}
		s += "x"
	}
}

// R1: an expression that is nested in itself is not valid.
func TestEndless(t *testing.T) {
	for _, x := range []string{"(ab)*", "ab", "ab|()", "(ab|c)*x"} {
		r := re(x)
		inner := &r
		for len(inner.Kids) > 0 {
			next := &inner.Kids[0]
			if len(next.Kids) == 0 {
				*next = r
				break
			}
			inner = next
		}
		fails(t, []api.Re{r}, api.ErrArg)
		fails(t, []api.Re{re("a"), r, re("b")}, api.ErrArg)
	}
}

// J1: expressions that share memory, and lists of any length.
func TestShared(t *testing.T) {
	x := re("ab|c*")
	star := regex.Star(x)
	asModel(t, []api.Re{x, regex.Cat([]api.Re{x, x}), regex.Cat([]api.Re{star, re("d"), star, x}), x})
	memory := []api.Re{re("a*"), re("(ab)*"), re("b"), re("c")}
	asModel(t, []api.Re{{Kind: api.Cat, Kids: memory}, {Kind: api.Cat, Kids: memory[1:]}, {Kind: api.Cat, Kids: memory[:2]}, {Kind: api.Cat, Kids: memory[1:3]}})
	wide := slices.Repeat(res("a b ab"), 30000)
	a := build(t, append(wide, re("c")))
	for s, want := range map[string]int{"a": 1, "b": 2, "ab": 3, "c": 90001, "": 0, "ba": 0} {
		if got := modelTag(a, s); got != want {
			t.Errorf("%q reaches %d, want %d", s, got, want)
		}
	}
	long := build(t, []api.Re{regex.Star(regex.Either(slices.Repeat(res("a b ab"), 30000)))})
	longest(t, long, "abbaabc", 0, 6, 1)
}

// guarded returns an expression in memory of its own, with one more item behind each list.
func guarded(r api.Re) api.Re {
	r.Kids = guardedList(r.Kids)
	return r
}

func guardedList(l []api.Re) []api.Re {
	var all []api.Re
	for _, r := range l {
		all = append(all, guarded(r))
	}
	return append(all, api.Re{Kind: -77, Set: full})[:len(l)]
}

// untouched holds a guarded list against what it was, also behind its end.
func untouched(l, was []api.Re) bool {
	n := len(l)
	return same(l[:n+1][n], api.Re{Kind: -77, Set: full}) && slices.EqualFunc(l, was, func(r, was api.Re) bool {
		return r.Kind == was.Kind && r.Set == was.Set && untouched(r.Kids, was.Kids)
	})
}

// R3: neither what is handed in, nor what is behind it, is changed.
func TestMemory(t *testing.T) {
	d := newDraw(10)
	for i := range 500 {
		var was []api.Re
		for _, x := range d.patterns(4, 4) {
			was = append(was, re(x))
		}
		if i%5 == 0 {
			was = append(was, wrongs()[d.IntN(len(wrongs()))])
		}
		l := guardedList(was)
		a, e := auto.Build(l)
		again, eAgain := auto.Build(l)
		if e != eAgain || !equal(a, again) {
			t.Errorf("%s: another answer", short(was))
		}
		if !untouched(l, was) {
			t.Fatalf("%s was changed to %s", short(was), short(l))
		}
	}
}

// copied returns an automaton in memory of its own.
func copied(a api.Auto) api.Auto {
	a.Tag = slices.Clone(a.Tag)
	a.Next = slices.Clone(a.Next)
	for i := range a.Next {
		a.Next[i] = slices.Clone(a.Next[i])
	}
	return a
}

// R3: nor is an automaton that is asked.
func TestAutoStays(t *testing.T) {
	d := newDraw(11)
	for range 2000 {
		a := d.wrong()
		was := copied(a)
		auto.Right(a)
		auto.Step(a, d.IntN(4), 'a')
		auto.Longest(a, d.string(6), 0)
		if !equal(a, was) {
			t.Fatalf("%s was changed to %s", short(was), short(a))
		}
	}
}

// The lists of an answer share no memory, neither with each other nor with those of another answer.
func TestAnswersAreNew(t *testing.T) {
	l := res("ab [ac]* (ab|ba)*c")
	a, was, other := build(t, l), copied(build(t, l)), build(t, l)
	for i := range a.Next {
		row := append(a.Next[i], 99)
		for c := range row {
			row[c] = 99
		}
		for c := range a.Next[i] {
			a.Next[i][c] = 99
		}
		a.Next[i] = append([]int(nil), was.Next[i]...)
		if !equal(a, was) {
			t.Fatalf("row %d is in other lists, too", i)
		}
	}
	clear(a.Tag)
	clear(a.Next)
	if !equal(other, was) || !equal(build(t, l), was) {
		t.Error("answers share memory")
	}
}

// R4: an answer hangs on nothing but the arguments: not on earlier calls, nor on calls at the same time.
func TestNoState(t *testing.T) {
	type call struct {
		l           []api.Re
		a           api.Auto
		e           api.Errno
		s           string
		length, tag int
	}
	d := newDraw(12)
	var calls []call
	for i := range 150 {
		var c call
		for _, x := range d.patterns(4, 3) {
			c.l = append(c.l, re(x))
		}
		if i%20 == 0 {
			c.l = append(c.l, wrongs()[i/20])
		}
		c.s = d.string(8)
		c.a, c.e = auto.Build(c.l)
		c.length, c.tag = auto.Longest(c.a, c.s, 0)
		calls = append(calls, c)
	}
	var group sync.WaitGroup
	for i := range 6 {
		order := rand.New(rand.NewPCG(9, uint64(i))).Perm(len(calls))
		group.Go(func() {
			for _, j := range order {
				c := calls[j]
				a, e := auto.Build(c.l)
				length, tag := auto.Longest(a, c.s, 0)
				if e != c.e || !equal(a, c.a) || length != c.length || tag != c.tag || !auto.Right(a) {
					t.Errorf("%s: another answer", short(c.l))
				}
			}
		})
	}
	group.Wait()
}
