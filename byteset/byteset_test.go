package byteset_test

import (
	"math"
	"slices"
	"testing"

	"reglet/api"
	"reglet/byteset"
)

var (
	empty = api.Set{}
	full  = api.Set{math.MaxUint64, math.MaxUint64, math.MaxUint64, math.MaxUint64}
)

// noBytes are numbers beside the bytes, some of which are bytes once cut to fewer bits.
var noBytes = []int{
	-1, -2, -63, -64, -65, -256, -255, -159, 256, 257, 319, 320, 353, 512, 1 << 16, 1<<32 + 97, -1 << 32, 1<<62 + 97,
	math.MaxInt32, math.MinInt32, math.MaxInt, math.MaxInt - 255, math.MinInt, math.MinInt + 97,
}

// inSet asks the words of a set as the chapter defines them.
func inSet(s api.Set, b int) bool {
	word := s[b/64]
	for range b % 64 {
		word /= 2
	}
	return word%2 == 1
}

// setOf makes a set from a question about each byte.
func setOf(in func(b int) bool) api.Set {
	var s api.Set
	for b := range 256 {
		if in(b) {
			s[b/64] += 1 << (b % 64)
		}
	}
	return s
}

// scattered makes sets that look like chance but are the same in each run, some of them dense and some thin.
func scattered(n int) []api.Set {
	x := uint64(0x9E3779B97F4A7C15)
	next := func() uint64 {
		x ^= x << 13
		x ^= x >> 7
		x ^= x << 17
		return x
	}
	l := make([]api.Set, n)
	for i := range l {
		for w := range l[i] {
			switch i % 3 {
			case 0:
				l[i][w] = next()
			case 1:
				l[i][w] = next() & next() & next()
			case 2:
				l[i][w] = next() | next() | next()
			}
		}
	}
	return l
}

// samples are the sets on which the laws are tried.
func samples() []api.Set {
	l := []api.Set{
		empty, full,
		setOf(func(b int) bool { return b == 0 }),
		setOf(func(b int) bool { return b == 255 }),
		setOf(func(b int) bool { return b == 0 || b == 255 }),
		setOf(func(b int) bool { return b != 0 && b != 255 }),
		setOf(func(b int) bool { return b == 63 || b == 64 }),
		setOf(func(b int) bool { return b >= 120 && b <= 200 }),
		setOf(func(b int) bool { return b < 64 }),
		setOf(func(b int) bool { return b >= 192 }),
		setOf(func(b int) bool { return b%2 == 0 }),
		setOf(func(b int) bool { return b%2 == 1 }),
		setOf(func(b int) bool { return b%3 != 0 }),
	}
	return append(l, scattered(30)...)
}

// A1: for the bytes, Has answers as the words of the set say.
func TestHasOfBytes(t *testing.T) {
	for _, s := range samples() {
		for b := range 256 {
			if byteset.Has(s, b) != inSet(s, b) {
				t.Errorf("Has(%x, %d) is %v", s, b, byteset.Has(s, b))
			}
		}
	}
}

// A1: each bit of each word stands for one byte alone.
func TestHasOfOneBit(t *testing.T) {
	for w := range 4 {
		for i := range 64 {
			var s api.Set
			s[w] = 1 << i
			for b := range 256 {
				if byteset.Has(s, b) != (b == 64*w+i) {
					t.Errorf("bit %d of word %d: Has(%d) is %v", i, w, b, byteset.Has(s, b))
				}
			}
		}
	}
}

// A1: what is no byte is in no set.
func TestHasOfNoBytes(t *testing.T) {
	for _, s := range samples() {
		for _, b := range noBytes {
			if byteset.Has(s, b) {
				t.Errorf("Has(%x, %d) is true", s, b)
			}
		}
		for b := -1000; b < 0; b++ {
			if byteset.Has(s, b) || byteset.Has(s, b+1256) {
				t.Errorf("Has(%x, %d or %d) is true", s, b, b+1256)
			}
		}
	}
}

// A2: Of holds the bytes from lo to hi, for bounds in the bytes and about them.
func TestOf(t *testing.T) {
	for lo := -4; lo < 261; lo++ {
		for hi := -4; hi < 261; hi++ {
			want := setOf(func(b int) bool { return lo <= b && b <= hi })
			if got := byteset.Of(lo, hi); got != want {
				t.Fatalf("Of(%d, %d) is %x", lo, hi, got)
			}
		}
	}
}

// A2: bounds far away from the bytes, and an end before its beginning.
func TestOfFarBounds(t *testing.T) {
	bounds := append([]int{0, 1, 97, 254, 255}, noBytes...)
	for _, lo := range bounds {
		for _, hi := range bounds {
			want := setOf(func(b int) bool { return lo <= b && b <= hi })
			if got := byteset.Of(lo, hi); got != want {
				t.Errorf("Of(%d, %d) is %x", lo, hi, got)
			}
		}
	}
	if byteset.Of(5, 4) != empty || byteset.Of(math.MaxInt, math.MinInt) != empty {
		t.Error("a range whose end is before its beginning is not empty")
	}
	if byteset.Of(math.MinInt, math.MaxInt) != full {
		t.Error("the range of all numbers is not the set of all bytes")
	}
}

// A3: the four operations, byte for byte.
func TestOperations(t *testing.T) {
	l := samples()
	for _, a := range l {
		if got := byteset.Turned(a); got != setOf(func(x int) bool { return !inSet(a, x) }) {
			t.Errorf("Turned(%x) is %x", a, got)
		}
		for _, b := range l {
			if got := byteset.Join(a, b); got != setOf(func(x int) bool { return inSet(a, x) || inSet(b, x) }) {
				t.Errorf("Join(%x, %x) is %x", a, b, got)
			}
			if got := byteset.Meet(a, b); got != setOf(func(x int) bool { return inSet(a, x) && inSet(b, x) }) {
				t.Errorf("Meet(%x, %x) is %x", a, b, got)
			}
			if got := byteset.Without(a, b); got != setOf(func(x int) bool { return inSet(a, x) && !inSet(b, x) }) {
				t.Errorf("Without(%x, %x) is %x", a, b, got)
			}
		}
	}
}

// A3: the operations at the empty set and at the set of all bytes.
func TestOperationsAtTheEnds(t *testing.T) {
	if byteset.Turned(empty) != full || byteset.Turned(full) != empty {
		t.Error("Turned")
	}
	for _, a := range samples() {
		if byteset.Join(a, empty) != a || byteset.Join(a, full) != full {
			t.Errorf("Join of %x", a)
		}
		if byteset.Meet(a, empty) != empty || byteset.Meet(a, full) != a {
			t.Errorf("Meet of %x", a)
		}
		if byteset.Without(a, empty) != a || byteset.Without(empty, a) != empty || byteset.Without(a, full) != empty || byteset.Without(a, a) != empty {
			t.Errorf("Without of %x", a)
		}
	}
}

// A4: Count.
func TestCount(t *testing.T) {
	for _, s := range samples() {
		want := 0
		for b := range 256 {
			if inSet(s, b) {
				want++
			}
		}
		if got := byteset.Count(s); got != want {
			t.Errorf("Count(%x) is %d, not %d", s, got, want)
		}
	}
	if byteset.Count(empty) != 0 || byteset.Count(full) != 256 {
		t.Error("Count of the empty set or of the set of all bytes")
	}
}

// A4: Ranges of sets that are written out.
func TestRanges(t *testing.T) {
	for _, c := range []struct {
		name string
		set  api.Set
		want []api.Range
	}{
		{"the empty set", empty, nil},
		{"all bytes", full, []api.Range{{Lo: 0, Hi: 255}}},
		{"the document's example", byteset.Join(byteset.Of(97, 99), byteset.Of(100, 100)), []api.Range{{Lo: 97, Hi: 100}}},
		{"the first byte", byteset.Of(0, 0), []api.Range{{Lo: 0, Hi: 0}}},
		{"the last byte", byteset.Of(255, 255), []api.Range{{Lo: 255, Hi: 255}}},
		{"both ends", byteset.Join(byteset.Of(0, 0), byteset.Of(255, 255)), []api.Range{{Lo: 0, Hi: 0}, {Lo: 255, Hi: 255}}},
		{"all but one", byteset.Turned(byteset.Of(7, 7)), []api.Range{{Lo: 0, Hi: 6}, {Lo: 8, Hi: 255}}},
		{"across words", byteset.Of(63, 192), []api.Range{{Lo: 63, Hi: 192}}},
		{"one byte between", byteset.Join(byteset.Of(1, 3), byteset.Of(5, 5)), []api.Range{{Lo: 1, Hi: 3}, {Lo: 5, Hi: 5}}},
	} {
		if got := byteset.Ranges(c.set); !slices.Equal(got, c.want) {
			t.Errorf("%s: %v", c.name, got)
		}
	}
	evens := byteset.Ranges(setOf(func(b int) bool { return b%2 == 0 }))
	if len(evens) != 128 {
		t.Errorf("the even bytes have %d ranges", len(evens))
	}
}

// A4: the ranges hold the bytes of the set alone, ascend, and do not touch, so that there are no fewer.
func TestRangesOfSamples(t *testing.T) {
	for _, s := range samples() {
		l := byteset.Ranges(s)
		for i, r := range l {
			if r.Lo > r.Hi || r.Lo < 0 || r.Hi > 255 {
				t.Errorf("Ranges(%x) has %v", s, r)
			}
			if i > 0 && r.Lo <= l[i-1].Hi+1 {
				t.Errorf("Ranges(%x) has %v after %v", s, r, l[i-1])
			}
		}
		held := setOf(func(b int) bool {
			return slices.ContainsFunc(l, func(r api.Range) bool { return r.Lo <= b && b <= r.Hi })
		})
		if held != s {
			t.Errorf("Ranges(%x) is %v", s, l)
		}
	}
}

// lists are the lists of sets on which the classes are tried: their lengths are about the lengths at which a key gets another byte.
func lists() map[string][]api.Set {
	many := samples()
	m := map[string][]api.Set{
		"no sets":            nil,
		"an empty list":      {},
		"the empty set":      {empty},
		"all bytes":          {full},
		"both ends":          {empty, full, empty},
		"one byte":           {byteset.Of(97, 97)},
		"the last byte":      {byteset.Of(255, 255)},
		"two that overlap":   {byteset.Of(97, 102), byteset.Of(100, 105)},
		"one set twice":      {many[10], many[10]},
		"a set, turned":      {many[10], many[11]},
		"eight bits":         nil,
		"each byte, falling": nil,
		"all samples":        many,
		"all samples, often": slices.Repeat(many, 30),
	}
	for i := range 8 {
		m["eight bits"] = append(m["eight bits"], setOf(func(b int) bool { return b>>i&1 == 1 }))
	}
	for b := 255; b >= 0; b-- {
		m["each byte, falling"] = append(m["each byte, falling"], byteset.Of(b, b))
	}
	// Only the last set, behind n empty ones, parts the bytes.
	for n, name := range map[int]string{6: "seventh", 7: "eighth", 8: "ninth", 15: "sixteenth", 16: "seventeenth", 63: "64th", 64: "65th"} {
		m["the "+name+" parts"] = append(slices.Repeat([]api.Set{empty}, n), byteset.Of(100, 200))
	}
	// Two bytes whose sets are as many, at other places of the list.
	for n := range 20 {
		l := append(slices.Repeat([]api.Set{empty}, n), byteset.Of(1, 1), byteset.Of(2, 2))
		m["two neighbours behind "+string(rune('a'+n))] = l
	}
	return m
}

// A5: two bytes have one class if and only if the same sets hold them.
func TestClassesPart(t *testing.T) {
	for name, l := range lists() {
		c := byteset.Classes(l)
		for a := range 256 {
			for b := range a {
				same := !slices.ContainsFunc(l, func(s api.Set) bool { return inSet(s, a) != inSet(s, b) })
				if same != (c[a] == c[b]) {
					t.Fatalf("%s: the bytes %d and %d have the classes %d and %d", name, b, a, c[b], c[a])
				}
			}
		}
	}
}

// A5: the numbers start at 0, and each new one is the next.
func TestClassesNumbers(t *testing.T) {
	for name, l := range lists() {
		next := 0
		for b, class := range byteset.Classes(l) {
			if class < 0 || class > next {
				t.Fatalf("%s: the byte %d has the class %d, where %d is the next", name, b, class, next)
			}
			if class == next {
				next++
			}
		}
	}
}

// A5: classes that are written out.
func TestClassesWritten(t *testing.T) {
	if byteset.Classes(nil) != [256]int{} || byteset.Classes([]api.Set{empty, full}) != [256]int{} {
		t.Error("sets that part nothing make more than one class")
	}
	var each [256]int
	for b := range each {
		each[b] = b
	}
	all := lists()
	if byteset.Classes(all["eight bits"]) != each || byteset.Classes(all["each byte, falling"]) != each {
		t.Error("sets that part all bytes do not make 256 classes in order")
	}
	c := byteset.Classes([]api.Set{byteset.Of(0, 9), byteset.Of(5, 20)})
	for b, want := range map[int]int{0: 0, 4: 0, 5: 1, 9: 1, 10: 2, 20: 2, 21: 3, 255: 3} {
		if c[b] != want {
			t.Errorf("the byte %d has the class %d, not %d", b, c[b], want)
		}
	}
}

// A5: the order of the sets, and sets that stand there twice, change nothing.
func TestClassesOrder(t *testing.T) {
	for name, l := range lists() {
		want := byteset.Classes(l)
		turned := slices.Clone(l)
		slices.Reverse(turned)
		if byteset.Classes(turned) != want || byteset.Classes(append(turned, l...)) != want {
			t.Errorf("%s: the order or the number of the sets changes the classes", name)
		}
	}
}

// A6: the complement of the complement, and De Morgan's laws.
func TestLawsOfComplement(t *testing.T) {
	l := samples()
	for _, a := range l {
		if byteset.Turned(byteset.Turned(a)) != a {
			t.Errorf("%x turned twice is another set", a)
		}
		for _, b := range l {
			if byteset.Turned(byteset.Join(a, b)) != byteset.Meet(byteset.Turned(a), byteset.Turned(b)) {
				t.Errorf("the union of %x and %x breaks De Morgan's law", a, b)
			}
			if byteset.Turned(byteset.Meet(a, b)) != byteset.Join(byteset.Turned(a), byteset.Turned(b)) {
				t.Errorf("the intersection of %x and %x breaks De Morgan's law", a, b)
			}
		}
	}
}

// A6: the union of the sets of Ranges is the set.
func TestLawOfRanges(t *testing.T) {
	for _, s := range samples() {
		var union api.Set
		for _, r := range byteset.Ranges(s) {
			union = byteset.Join(union, byteset.Of(r.Lo, r.Hi))
		}
		if union != s {
			t.Errorf("the ranges of %x are %x together", s, union)
		}
	}
}

// A6: each set of the list is the union of the classes that it touches.
func TestLawOfClasses(t *testing.T) {
	for name, l := range lists() {
		c := byteset.Classes(l)
		var classes [256]api.Set
		for b, class := range c {
			classes[class] = byteset.Join(classes[class], byteset.Of(b, b))
		}
		for _, s := range l {
			var union api.Set
			for b := range 256 {
				if byteset.Has(s, b) {
					union = byteset.Join(union, classes[c[b]])
				}
			}
			if union != s {
				t.Errorf("%s: %x is no union of classes", name, s)
			}
		}
	}
}

// R3: arguments are not modified, nor is memory beyond the length of a slice.
func TestArgumentsStay(t *testing.T) {
	l := samples()
	before := slices.Clone(l)
	byteset.Classes(l[:5])
	byteset.Classes(l)
	if !slices.Equal(l, before) {
		t.Error("Classes changes its list")
	}
}

// R4: an answer is new memory, and the same again, whatever was done to the one before.
func TestAnswersAreNew(t *testing.T) {
	s := byteset.Join(byteset.Of(1, 3), byteset.Of(9, 9))
	want := []api.Range{{Lo: 1, Hi: 3}, {Lo: 9, Hi: 9}}
	first := byteset.Ranges(s)
	first[0] = api.Range{Lo: 100, Hi: 200}
	first = append(first[:1], api.Range{})
	if got := byteset.Ranges(s); !slices.Equal(got, want) || len(first) != 2 {
		t.Errorf("Ranges after a change of its answer: %v", got)
	}
}
