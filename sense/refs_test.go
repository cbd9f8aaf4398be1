package sense_test

import (
	"fmt"
	"strings"
	"testing"

	"reglet/api"
	"reglet/grammar"
)

// F2, F3: a name that no rule has.
func TestNoRule(t *testing.T) {
	for _, s := range []string{"", "x", "xx"} {
		for _, name := range []string{"", "b", "A", "aa", "a ", "none", "digit", "x", "\x00", "\xff"} {
			both(t, nil, name, s)
			both(t, rules(t, `a = "x"`), name, s)
			both(t, rules(t, `a = *"x"`), name, s)
		}
		told(t, "a = b", s)
		told(t, "a = b / c", s)
		told(t, "a = *b", s, 0)
		told(t, "a = 1*b", s)
	}
	told(t, `a = b / "x"`, "x", 1)
	told(t, `a = [b] "x"`, "x", 1)
	told(t, `a = b "x"`, "x")
	// Core rules are there only if they were joined.
	told(t, "a = digit", "1")
}

// F2, F3: of rules with one name the first one counts.
func TestFirstRule(t *testing.T) {
	g := []api.Rule{rule("b", fold("y")), rule("a", fold("x")), rule("a", fold("xx")), rule("c", seq(ref("a"), ref("b"))), rule("b", fold("x")), rule("a", ref("c"))}
	both(t, g, "a", "xxy", 1)
	both(t, g, "b", "yx", 1)
	both(t, g, "b", "x")
	both(t, g, "c", "xy", 2)
	both(t, g, "c", "xxy")
	both(t, g, "c", "xx")
	both(t, g[2:], "a", "xxy", 2)
	both(t, g[2:], "c", "xxxy", 3)
	both(t, g[:1], "a", "x")
	// A rule that derives nothing counts too.
	both(t, []api.Rule{rule("a", ref("none")), rule("a", fold("x"))}, "a", "x")
	both(t, []api.Rule{rule("a", ref("a")), rule("a", fold("x"))}, "a", "x")
	both(t, []api.Rule{{Name: "a"}, rule("a", fold("x"))}, "a", "x")
	// Rules beyond the length of a slice are none of it.
	both(t, g[:0], "b", "y")
}

// F2: names need not be valid.
func TestAnyName(t *testing.T) {
	long := strings.Repeat("n", 1000)
	g := []api.Rule{rule("", fold("x")), rule("A", ref("")), rule("é\xff", ref("A")), rule(long, seq(ref("é\xff"), ref("A")))}
	both(t, g, "", "xx", 1)
	both(t, g, "A", "xx", 1)
	both(t, g, "é\xff", "xx", 1)
	both(t, g, long, "xx", 2)
	both(t, g, "a", "xx")
	both(t, g, long[1:], "xx")
}

// F2: a rule that comes back to itself on the left, in the middle and on the right.
func TestRecursion(t *testing.T) {
	told(t, `a = "x" / a "x"`, "xxy", 1, 2)
	told(t, `a = a "x" / "x"`, "xxx", 1, 2, 3)
	told(t, `a = a "x" / ""`, "xxx", 0, 1, 2, 3)
	told(t, `a = "x" a / "x"`, "xxx", 1, 2, 3)
	told(t, `a = "x" a / ""`, "xxx", 0, 1, 2, 3)
	told(t, `a = ["x" a]`, "xxx", 0, 1, 2, 3)
	told(t, `a = "(" a ")" / ""`, "(())", 0, 4)
	told(t, `a = "(" a ")" / "x"`, "((x))y", 5)
	told(t, `a = "(" a ")" / "x"`, "((x)")
	told(t, `a = "x" a "x" / "x"`, "xxxxxx", 1, 3, 5)
	told(t, `a = "x" a "x" / ""`, "xxxxx", 0, 2, 4)
	told(t, `a = a a / "x"`, "xxxx", 1, 2, 3, 4)
	told(t, `a = a a / "xx" / ""`, "xxxxx", 0, 2, 4)
	told(t, `a = a a a / "x"`, "xxxxxx", 1, 3, 5)
	told(t, `a = a / "x"`, "x", 1)
	told(t, `a = "x" / a`, "x", 1)
	told(t, `a = a "y" / a "z" / "x"`, "xyzzyx", 1, 2, 3, 4, 5)
	told(t, `a = *a "x"`, "xxx", 1, 2, 3)
	told(t, `a = "x" *("(" a ")")`, "x(x(x)(x))(x)(", 1, 10, 13)
	told(t, `a = 2a / "x"`, "xxxxx", 1, 2, 3, 4, 5)
	told(t, `a = 3a / "x"`, "xxxxxx", 1, 3, 5)
	told(t, `a = [a] "x" [a]`, "xxxx", 1, 2, 3, 4)
	told(t, `a = ("" / "x") a "y" / "z"`, "xzyy", 3, 4)
	told(t, `a = ("" / "x") a "y" / "z"`, "zyyy", 1, 2, 3, 4)
}

// F2: rules that name one another.
func TestMutual(t *testing.T) {
	told(t, `a = b "x" / "x" | b = a "y"`, "xyxyx", 1, 3, 5)
	told(t, `a = "x" b / "x" | b = "y" a`, "xyxyxy", 1, 3, 5)
	told(t, `a = "x" b | b = "y" a / "y"`, "xyxyxy", 2, 4, 6)
	told(t, `a = b / "x" | b = a / "y"`, "x", 1)
	told(t, `a = b / "x" | b = a / "y"`, "y", 1)
	told(t, `a = b | b = c | c = a / "x"`, "x", 1)
	told(t, `a = b c | b = [a] | c = "x" / c a`, "xxx", 1, 2, 3)
	told(t, `a = b | b = a`, "x")
	told(t, `a = *b | b = a`, "x", 0)
	told(t, `a = s s | s = *2"x"`, "xxxxx", 0, 1, 2, 3, 4)
	g := rules(t, `sum = term *(("+" / "-") term) | term = factor *(("*" / "/") factor) | factor = number / "-" factor / "(" sum ")" | number = 1*%x30-39`)
	both(t, g, "sum", "1+2*(3-4)/-5)", 1, 3, 9, 12)
	both(t, g, "term", "1+2*(3-4)/-5)", 1)
	both(t, g, "factor", "(1+2)*(3-4)", 5)
	both(t, g, "factor", "--(12)3", 6)
	both(t, g, "sum", "(((((((((((1)))))))))))", 23)
	both(t, g, "sum", "((1)")
}

// F2: what takes no finite number of steps is not derived.
func TestNeverEnding(t *testing.T) {
	for _, text := range []string{"a = a", "a = a a", "a = a / a", `a = "x" a`, `a = a "x"`, "a = 1*a", "a = 2a", `a = ["x"] a`, `a = a / a "x"`, "a = b | b = a", `a = "x" b / b | b = a "x"`, `a = "x" a "y"`, `a = 1*("" a)`, "a = b b | b = a / c | c = b"} {
		for _, s := range []string{"", "x", "xx", "xxxx", "xy", "xxyy"} {
			told(t, text, s)
		}
	}
	told(t, `a = a / "x" a / "y"`, "xxy", 3)
	told(t, `a = a / "x" a / "y"`, "xxx")
	told(t, `a = b / "x" | b = b "x"`, "xx", 1)
	told(t, `a = [b] "x" | b = b`, "xx", 1)
}

// F3: each name of a grammar, by itself.
func TestEachName(t *testing.T) {
	g := rules(t, `a = b c | b = "x" / "xx" | c = *d | d = "x" / "y" d`)
	both(t, g, "a", "xxyx", 1, 2, 4)
	both(t, g, "b", "xxyx", 1, 2)
	both(t, g, "c", "xxyx", 0, 1, 2, 4)
	both(t, g, "d", "xxyx", 1)
	both(t, g, "d", "yyx", 3)
	both(t, g, "e", "xxyx")
}

// F3: the core rules.
func TestCoreRules(t *testing.T) {
	g := grammar.Core()
	for name, in := range map[string]func(b int) bool{
		"alpha": func(b int) bool { return b >= 'A' && b <= 'Z' || b >= 'a' && b <= 'z' },
		"bit":   func(b int) bool { return b == '0' || b == '1' },
		"char":  func(b int) bool { return b >= 1 && b <= 127 },
		"cr":    func(b int) bool { return b == 13 },
		"crlf":  func(b int) bool { return false },
		"ctl":   func(b int) bool { return b <= 31 || b == 127 },
		"digit": func(b int) bool { return b >= '0' && b <= '9' },
		"hexdig": func(b int) bool {
			return b >= '0' && b <= '9' || b >= 'A' && b <= 'F' || b >= 'a' && b <= 'f'
		},
		"octet": func(b int) bool { return true },
		"vchar": func(b int) bool { return b >= 33 && b <= 126 },
		"wsp":   func(b int) bool { return b == 32 || b == 9 },
	} {
		for b := range 256 {
			s := string([]byte{byte(b)})
			var want []int
			if in(b) {
				want = []int{1}
			}
			ends(t, g, name, s+"\r\n", false, want...)
			if b > 127 {
				want = nil
			}
			if name != "crlf" {
				ends(t, g, name, s+"\r\n", true, want...)
			}
		}
	}
	both(t, g, "crlf", "\r\n", 2)
	both(t, g, "crlf", "\n")
	both(t, g, "lwsp", " \t\r\n \r\n\r\n ", 0, 1, 2, 5)
	ends(t, g, "octet", "ÿ", true, 2)
	ends(t, g, "octet", "Ā", true)
}

// F3: many rules, and a chain of them, of which each one names the next one.
func TestManyRules(t *testing.T) {
	const n = 20000
	left, right, plain := make([]api.Rule, n), make([]api.Rule, n), make([]api.Rule, n)
	for i := range n {
		name, next := fmt.Sprint("r", i), ref(fmt.Sprint("r", i+1))
		left[i], right[i], plain[i] = rule(name, seq(next, fold("x"))), rule(name, alt(fold("y"), seq(fold("x"), next))), rule(name, next)
	}
	last := rule(fmt.Sprint("r", n), fold("y"))
	left, right, plain = append(left, last), append(right, last), append(plain, last)
	s := strings.Repeat("x", n)
	both(t, left, "r0", "y"+s+s, n+1)
	both(t, left, "r1", "y"+s+s, n)
	both(t, left, "r0", s)
	both(t, right, "r0", s+"yy", n+1)
	both(t, right, "r0", "xxyy", 3)
	both(t, right, "r0", "x"+s+"y")
	both(t, plain, "r0", "yy", 1)
	both(t, plain[:n], "r0", "y")
}
