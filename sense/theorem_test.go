package sense_test

import (
	"slices"
	"strings"
	"testing"

	"reglet/api"
	"reglet/sense"
)

// recursions returns the rules left, right and repeat, which derive the string of one expression, and after it any number of those of another one, and the same the other way round.
func recursions(first, again api.Expr) []api.Rule {
	return []api.Rule{
		rule("left", alt(first, seq(ref("left"), again))),
		rule("right", seq(first, ref("rest"))),
		rule("rest", alt(fold(""), seq(again, ref("rest")))),
		rule("repeat", seq(first, rep(0, -1, again))),
		rule("left-back", seq(ref("start"), first)),
		rule("start", alt(fold(""), seq(ref("start"), again))),
		rule("right-back", alt(first, seq(again, ref("right-back")))),
		rule("repeat-back", seq(rep(0, -1, again), first)),
	}
}

// agree asks that all forms of a recursion end at the same places.
func agree(t *testing.T, g []api.Rule, s string, utf bool) (found int) {
	t.Helper()
	for _, end := range []string{"", "-back"} {
		want := sense.Ends(g, "repeat"+end, s, utf)
		found += len(want)
		ends(t, g, "left"+end, s, utf, want...)
		ends(t, g, "right"+end, s, utf, want...)
	}
	return found
}

// F4: a left-recursive rule derives what the right-recursive one does.
func TestLeftAndRight(t *testing.T) {
	x := fold("x")
	for n := range 30 {
		s := strings.Repeat("x", n)
		g := recursions(x, x)
		agree(t, g, s, false)
		both(t, g, "left", s, from(1, n)...)
		both(t, g, "right-back", s+"y", from(1, n)...)
		g = recursions(fold("y"), seq(fold("x"), option(fold("z"))))
		agree(t, g, "y"+s+"zxx", true)
		both(t, g, "left", "y"+s, from(1, n+1)...)
		both(t, g, "left", "x"+s)
		both(t, g, "right", "x"+s)
		g = recursions(span(0x80, 0x10FFFF), span(0x80, 0x10FFFF))
		agree(t, g, strings.Repeat("é€", n), true)
		agree(t, g, strings.Repeat("é€", n), false)
	}
}

// F4: the same for expressions as they come.
func TestLeftAndRightDrawn(t *testing.T) {
	d := newDraw(3)
	found := 0
	for range 1500 {
		g := append(recursions(d.expr(3), d.expr(3)), d.rules(4)...)
		for range 4 {
			found += agree(t, g, d.text(12), d.IntN(2) == 0)
		}
	}
	if found < 5000 {
		t.Errorf("only %d ends", found)
	}
}

// text returns a text that is so long at most.
func (d draw) text(longest int) string {
	var s strings.Builder
	for range d.IntN(longest + 1) {
		s.WriteString([]string{"x", "x", "x", "X", "X", "y", "\xc3", "\xa9", "é", "\xe9", "\x80", "z"}[d.IntN(12)])
	}
	return s.String()
}

// upTo returns the ends that are no greater than n.
func upTo(l []int, n int) []int {
	return slices.DeleteFunc(slices.Clone(l), func(end int) bool { return end > n })
}

// F4: how a text goes on changes nothing about its prefixes.
func TestContinued(t *testing.T) {
	d := newDraw(4)
	for range 1500 {
		g, s, utf := d.rules(4), d.text(14), d.IntN(2) == 0
		for _, name := range d.names {
			all := sense.Ends(g, name, s, utf)
			for n := range len(s) {
				ends(t, g, name, s[:n], utf, upTo(all, n)...)
			}
			for _, more := range []string{"x", "\x00", "\xa9", "é", "xxxx"} {
				if after := sense.Ends(g, name, s+more, utf); !slices.Equal(upTo(after, len(s)), all) {
					t.Errorf("%s, %s in %q: %v, in %q: %v", short(g), name, s, all, s+more, after)
				}
			}
		}
	}
}

// F4: some texts that go on in several ways.
func TestContinuedInWays(t *testing.T) {
	g := rules(t, `a = *("x" / "y" a "z") | b = %xE9 / %xE9.E9 / "x" | c = c c / "xy"`)
	for _, more := range []string{"", "x", "y", "z", "X", "\x00", "\xff", "é", "\xa9", "xxxx", "zzzz"} {
		for _, x := range []struct {
			name, s string
			last    int
		}{{"a", "", 0}, {"a", "x", 1}, {"a", "xyxzx", 5}, {"a", "y", 0}, {"b", "x", 1}, {"b", "é", 2}, {"c", "xyxy", 4}} {
			before, after := sense.Ends(g, x.name, x.s, true), sense.Ends(g, x.name, x.s+more, true)
			if len(before) == 0 || before[len(before)-1] != x.last || !slices.Equal(before, after[:min(len(before), len(after))]) {
				t.Errorf("%s in %q: %v, in %q: %v", x.name, x.s, before, x.s+more, after)
			}
		}
	}
}

// F3: ends are in ascending order, each once, and within the text.
func TestAscending(t *testing.T) {
	d := newDraw(5)
	for range 2000 {
		g, s := d.rules(4), d.text(30)
		for _, name := range d.names {
			last := -1
			for _, end := range sense.Ends(g, name, s, d.IntN(2) == 0) {
				if end <= last || end > len(s) {
					t.Fatalf("%s, %s in %q: %d behind %d", short(g), name, s, end, last)
				}
				last = end
			}
		}
	}
	// Several ways to each of many ends.
	for _, text := range []string{`a = *("x" / "xx" / "x" "x")`, `a = *"x" / *"xx" / *"x" *"x"`, `a = a a / "x" / ""`, `a = [a] ["x"] [a]`, `a = "" / a "x" / "x" a`, `a = 0*200("x" / "") *"x"`} {
		told(t, text, strings.Repeat("x", 60), from(0, 60)...)
	}
}
