package scalar_test

import (
	"iter"
	"math"
	"reflect"
	"slices"
	"testing"

	"reglet/api"
	"reglet/scalar"
)

const greatest = 1114111

// noScalars are numbers that are no scalar values, some of which are scalar values once cut to fewer bits.
var noScalars = []int{
	-1, -2, -97, -128, -55296, greatest + 1, greatest + 2, 0x1FFFFF, 0x200000, 0x3FFFFFF, 1 << 21, 1<<21 + 97,
	55296, 55297, 56319, 56320, 57342, 57343,
	1 << 31, 1<<31 + 97, 1 << 32, 1<<32 + 97, 1<<32 + 233, 1<<32 + 65533, -1 << 32, -1<<32 + 97, 1<<62 + 97,
	math.MaxInt32, math.MinInt32, math.MaxUint32, math.MaxInt, math.MaxInt - 97, math.MinInt, math.MinInt + 97,
}

// isScalar says what the chapter's words call a scalar value.
func isScalar(c int) bool {
	return 0 <= c && c <= 55295 || 57344 <= c && c <= 1114111
}

// encoded is the table of RFC 3629, section 3, for a scalar value.
func encoded(c int) []int {
	switch {
	case c < 128:
		return []int{c}
	case c < 2048:
		return []int{192 + c/64, 128 + c%64}
	case c < 65536:
		return []int{224 + c/4096, 128 + c/64%64, 128 + c%64}
	}
	return []int{240 + c/262144, 128 + c/4096%64, 128 + c/64%64, 128 + c%64}
}

// decoded returns the number that a list of bytes would be the encoding of, whether or not it is.
func decoded(l []int) int {
	c := l[0]
	if len(l) > 1 {
		c -= []int{192, 224, 240}[len(l)-2]
	}
	for _, b := range l[1:] {
		c = c*64 + b - 128
	}
	return c
}

// scalars counts the scalar values from lo to hi.
func scalars(lo, hi int) int {
	within := func(first, last int) int {
		if lo > last || hi < first || lo > hi {
			return 0
		}
		return min(hi, last) - max(lo, first) + 1
	}
	return within(0, 55295) + within(57344, greatest)
}

func matches(list []int, sequence []api.Range) bool {
	if len(list) != len(sequence) {
		return false
	}
	for i, r := range sequence {
		if list[i] < r.Lo || list[i] > r.Hi {
			return false
		}
	}
	return true
}

// howMany counts the sequences that a list matches.
func howMany(list []int, sequences [][]api.Range) int {
	n := 0
	for _, s := range sequences {
		if matches(list, s) {
			n++
		}
	}
	return n
}

// listsOf yields all the lists of bytes that a sequence matches, always in the same memory.
func listsOf(sequence []api.Range) iter.Seq[[]int] {
	return func(yield func([]int) bool) {
		list := make([]int, len(sequence))
		var from func(i int) bool
		from = func(i int) bool {
			if i == len(sequence) {
				return yield(list)
			}
			for b := sequence[i].Lo; b <= sequence[i].Hi; b++ {
				list[i] = b
				if !from(i + 1) {
					return false
				}
			}
			return true
		}
		from(0)
	}
}

// packed returns the lists that sequences match, as ordered numbers with the length on top: one for each sequence that a list matches.
func packed(sequences [][]api.Range) []uint64 {
	var l []uint64
	for _, s := range sequences {
		for list := range listsOf(s) {
			x := uint64(len(list))
			for i := range 4 {
				x <<= 8
				if i < len(list) {
					x |= uint64(list[i])
				}
			}
			l = append(l, x)
		}
	}
	slices.Sort(l)
	return l
}

// checkForm holds sequences against what B2 says of their form.
func checkForm(t *testing.T, lo, hi int, sequences [][]api.Range) {
	t.Helper()
	if len(sequences) > 25 {
		t.Fatalf("Sequences(%d, %d) has %d sequences", lo, hi, len(sequences))
	}
	for _, s := range sequences {
		if len(s) < 1 || len(s) > 4 {
			t.Fatalf("Sequences(%d, %d) has a sequence of %d ranges", lo, hi, len(s))
		}
		for _, r := range s {
			if r.Lo < 0 || r.Lo > r.Hi || r.Hi > 255 {
				t.Fatalf("Sequences(%d, %d) has the range %v", lo, hi, r)
			}
		}
	}
}

// checkWhole goes through all the lists that the sequences match: each has to be the bytes of another scalar value of the range, and as many have to be there.
func checkWhole(t *testing.T, lo, hi int) {
	t.Helper()
	sequences := scalar.Sequences(lo, hi)
	checkForm(t, lo, hi, sequences)
	first := max(lo, 0)
	seen := make([]bool, max(0, min(hi, greatest)-first+1))
	n := 0
	for _, s := range sequences {
		for list := range listsOf(s) {
			c := decoded(list)
			if c < lo || c > hi || !isScalar(c) || !slices.Equal(list, encoded(c)) {
				t.Fatalf("Sequences(%d, %d) is %v: it matches %v", lo, hi, sequences, list)
			}
			if seen[c-first] {
				t.Fatalf("Sequences(%d, %d) is %v: it matches %v twice", lo, hi, sequences, list)
			}
			seen[c-first] = true
			n++
		}
	}
	if n != scalars(lo, hi) {
		t.Fatalf("Sequences(%d, %d) is %v: it matches %d lists, not %d", lo, hi, sequences, n, scalars(lo, hi))
	}
}

// checkSome counts the lists that the sequences match, and asks for the scalar values of some.
func checkSome(t *testing.T, lo, hi int, some []int) {
	t.Helper()
	sequences := scalar.Sequences(lo, hi)
	checkForm(t, lo, hi, sequences)
	n := 0
	for _, s := range sequences {
		lists := 1
		for _, r := range s {
			lists *= r.Hi - r.Lo + 1
		}
		n += lists
	}
	if n != scalars(lo, hi) {
		t.Fatalf("Sequences(%d, %d) is %v: it matches %d lists, not %d", lo, hi, sequences, n, scalars(lo, hi))
	}
	for _, c := range some {
		want := 0
		if lo <= c && c <= hi && isScalar(c) {
			want = 1
		}
		if isScalar(c) && howMany(encoded(c), sequences) != want {
			t.Fatalf("Sequences(%d, %d) is %v: %d of them match %d", lo, hi, sequences, howMany(encoded(c), sequences), c)
		}
	}
}

// borders are numbers behind which the length or one of the bytes ahead changes, or the gap begins or ends.
var borders = []int{
	-1, 127, 191, 1023, 2047, 4095, 8191, 53247, 55295, 56319, 57343, 61439, 65535, 131071, 262143, 266239, 1048575, greatest,
}

// edges are the numbers about the borders.
func edges() []int {
	var l []int
	for _, b := range borders {
		l = append(l, b-1, b, b+1, b+2)
	}
	return l
}

// mixed yields numbers that look like chance but are the same in each run.
func mixed(n, below int) []int {
	x := uint64(0x9E3779B97F4A7C15)
	l := make([]int, n)
	for i := range l {
		x ^= x << 13
		x ^= x >> 7
		x ^= x << 17
		l[i] = int(x>>11) % below
	}
	return l
}

// B1: bytes that are written out, at the borders of the lengths and of the gap among others.
func TestBytesWritten(t *testing.T) {
	for c, want := range map[int][]int{
		0: {0}, 1: {1}, 65: {65}, 126: {126}, 127: {127},
		128: {194, 128}, 129: {194, 129}, 191: {194, 191}, 192: {195, 128}, 233: {195, 169}, 255: {195, 191}, 256: {196, 128}, 2047: {223, 191},
		2048: {224, 160, 128}, 4095: {224, 191, 191}, 4096: {225, 128, 128}, 8364: {226, 130, 172},
		55295: {237, 159, 191}, 57344: {238, 128, 128}, 65279: {239, 187, 191}, 65533: {239, 191, 189}, 65534: {239, 191, 190}, 65535: {239, 191, 191},
		65536: {240, 144, 128, 128}, 128512: {240, 159, 152, 128}, 262143: {240, 191, 191, 191}, 262144: {241, 128, 128, 128}, 1114111: {244, 143, 191, 191},
	} {
		if got := scalar.Bytes(c); !slices.Equal(got, want) {
			t.Errorf("Bytes(%d) is %v, not %v", c, got, want)
		}
	}
}

// B1: all numbers up to the greatest scalar value, and those about them.
func TestBytesOfAll(t *testing.T) {
	for c := -70000; c < greatest+70000; c++ {
		var want []int
		if isScalar(c) {
			want = encoded(c)
		}
		if got := scalar.Bytes(c); !slices.Equal(got, want) {
			t.Fatalf("Bytes(%d) is %v, not %v", c, got, want)
		}
	}
}

// B1: what is no scalar value has no bytes; a cut to 32 bits does not make it one.
func TestBytesOfNoScalars(t *testing.T) {
	for _, c := range noScalars {
		if got := scalar.Bytes(c); len(got) != 0 {
			t.Errorf("Bytes(%d) is %v", c, got)
		}
	}
	for bit := 21; bit < 63; bit++ {
		for _, c := range []int{0, 97, 233, 8364, 128512} {
			if len(scalar.Bytes(c+1<<bit)) != 0 || len(scalar.Bytes(c-1<<bit)) != 0 {
				t.Errorf("Bytes(%d), with the bit %d added or taken, is not empty", c, bit)
			}
		}
	}
}

// B2: ranges for which only one list of sequences, or few of them, can be right.
func TestSequencesWritten(t *testing.T) {
	for _, c := range []struct {
		lo, hi int
		want   [][]api.Range
	}{
		{0, 127, [][]api.Range{{{Lo: 0, Hi: 127}}}},
		{97, 97, [][]api.Range{{{Lo: 97, Hi: 97}}}},
		{127, 127, [][]api.Range{{{Lo: 127, Hi: 127}}}},
		{128, 128, [][]api.Range{{{Lo: 194, Hi: 194}, {Lo: 128, Hi: 128}}}},
		{233, 233, [][]api.Range{{{Lo: 195, Hi: 195}, {Lo: 169, Hi: 169}}}},
		{55295, 57344, [][]api.Range{{{Lo: 237, Hi: 237}, {Lo: 159, Hi: 159}, {Lo: 191, Hi: 191}}, {{Lo: 238, Hi: 238}, {Lo: 128, Hi: 128}, {Lo: 128, Hi: 128}}}},
		{greatest, greatest, [][]api.Range{{{Lo: 244, Hi: 244}, {Lo: 143, Hi: 143}, {Lo: 191, Hi: 191}, {Lo: 191, Hi: 191}}}},
	} {
		got := scalar.Sequences(c.lo, c.hi)
		checkForm(t, c.lo, c.hi, got)
		if !slices.Equal(packed(got), packed(c.want)) {
			t.Errorf("Sequences(%d, %d) is %v, not %v", c.lo, c.hi, got, c.want)
		}
	}
	if got := scalar.Sequences(0, 127); !reflect.DeepEqual(got, [][]api.Range{{{Lo: 0, Hi: 127}}}) {
		t.Errorf("the document's example: %v", got)
	}
}

// B2: ranges that hold no scalar value have no sequences.
func TestSequencesOfNothing(t *testing.T) {
	for _, r := range [][2]int{
		{5, 4}, {1, 0}, {0, -1}, {128, 127}, {57344, 55295}, {greatest, 0}, {greatest + 1, greatest},
		{55296, 57343}, {55296, 55296}, {57343, 57343}, {56319, 56320},
		{-1, -1}, {-9, -2}, {greatest + 1, greatest + 1}, {greatest + 1, math.MaxInt}, {math.MinInt, -1},
		{math.MaxInt, math.MaxInt}, {math.MinInt, math.MinInt}, {math.MaxInt, math.MinInt}, {1 << 32, 1<<32 + 127}, {-1 << 32, -1<<32 + 127},
	} {
		if got := scalar.Sequences(r[0], r[1]); len(got) != 0 {
			t.Errorf("Sequences(%d, %d) is %v", r[0], r[1], got)
		}
	}
}

// B2: a range of one number is matched by the bytes of that number alone.
func TestSequencesOfOneNumber(t *testing.T) {
	for c := -200; c < greatest+200; c++ {
		got := scalar.Sequences(c, c)
		if !isScalar(c) {
			if len(got) != 0 {
				t.Fatalf("Sequences(%d, %d) is %v", c, c, got)
			}
			continue
		}
		want := encoded(c)
		if len(got) != 1 || len(got[0]) != len(want) {
			t.Fatalf("Sequences(%d, %d) is %v", c, c, got)
		}
		for i, r := range got[0] {
			if r.Lo != want[i] || r.Hi != want[i] {
				t.Fatalf("Sequences(%d, %d) is %v", c, c, got)
			}
		}
	}
}

// B2: great ranges, list by list.
func TestSequencesOfGreatRanges(t *testing.T) {
	for _, r := range [][2]int{
		{0, greatest}, {math.MinInt, math.MaxInt}, {-9, 200}, {greatest, 2 * greatest}, {1114000, 1 << 40}, {math.MinInt, 0}, {math.MinInt, 5000},
		{0, 255}, {97, 1023}, {127, 128}, {2047, 2049}, {128, 2047}, {150, 2000}, {2048, 65535}, {3000, 65000}, {53248, 57635}, {55296, 57344}, {55295, 57343}, {56000, 60000}, {50000, 57000},
		{4660, 22136}, {65535, 74565}, {65536, greatest}, {100000, 1100000}, {1, greatest - 1}, {129, 999999}, {2049, 1048577}, {40000, 266241},
	} {
		checkWhole(t, r[0], r[1])
	}
}

// B2: all ranges of numbers about each border, list by list.
func TestSequencesAboutBorders(t *testing.T) {
	for _, b := range borders {
		for lo := b - 66; lo <= b+66; lo++ {
			for hi := lo - 2; hi <= b+66; hi++ {
				checkWhole(t, lo, hi)
			}
		}
	}
}

// B2: all ranges from one edge to another one.
func TestSequencesFromEdgeToEdge(t *testing.T) {
	l := edges()
	far := []int{math.MinInt, math.MinInt + 1, -1 << 32, -1 << 20, 1 << 21, 1 << 32, math.MaxInt - 1, math.MaxInt}
	some := append(slices.Clone(l), mixed(50, greatest+1)...)
	l = append(l, far...)
	for _, lo := range l {
		for _, hi := range l {
			checkSome(t, lo, hi, some)
			if min(hi, greatest)-max(lo, 0) < 5000 {
				checkWhole(t, lo, hi)
			}
		}
	}
}

// B2: ranges without a rule between them.
func TestSequencesOfMixedRanges(t *testing.T) {
	l := mixed(6000, greatest+1)
	for i := 0; i+1 < len(l); i += 2 {
		lo, hi := min(l[i], l[i+1]), max(l[i], l[i+1])
		if i%3 == 1 {
			lo %= 3000
		}
		checkSome(t, lo, hi, []int{lo - 1, lo, lo + 1, (lo + hi) / 2, hi - 1, hi, hi + 1})
	}
	for i, lo := range l[:300] {
		checkWhole(t, lo, lo+l[i+300]%9000)
	}
}

// B2: lists that are the bytes of no scalar value match nothing, whatever the range: encodings that are too long, surrogates, numbers over the greatest one, lists that end too early or too late.
func TestSequencesOfWrongLists(t *testing.T) {
	wrong := [][]int{
		{}, {128}, {191}, {192}, {193}, {194}, {224}, {240}, {245}, {255},
		{192, 128}, {193, 191}, {193, 255}, {194, 127}, {194, 192}, {223, 192}, {97, 97}, {127, 191},
		{224, 128, 128}, {224, 159, 191}, {237, 160, 128}, {237, 191, 191}, {225, 128}, {225, 127, 128}, {239, 191, 192}, {194, 128, 128},
		{240, 128, 128, 128}, {240, 143, 191, 191}, {244, 144, 128, 128}, {245, 128, 128, 128}, {247, 191, 191, 191}, {240, 144, 128}, {239, 191, 191, 191},
		{248, 136, 128, 128, 128}, {240, 144, 128, 128, 128}, {-1}, {256}, {353}, {97 + 1<<32},
	}
	for _, r := range [][2]int{{0, greatest}, {math.MinInt, math.MaxInt}, {0, 55296}, {55296, greatest}, {2000, 70000}} {
		sequences := scalar.Sequences(r[0], r[1])
		for _, list := range wrong {
			if howMany(list, sequences) != 0 {
				t.Errorf("Sequences(%d, %d) is %v: it matches %v", r[0], r[1], sequences, list)
			}
		}
	}
}

// B2: what Bytes returns matches, so that the two calls tell the same.
func TestSequencesMatchBytes(t *testing.T) {
	lo, hi := 100, 1100000
	sequences := scalar.Sequences(lo, hi)
	for c := range greatest + 1 {
		want := 0
		if lo <= c && c <= hi && isScalar(c) {
			want = 1
		}
		if howMany(scalar.Bytes(c), sequences) != want {
			t.Fatalf("the bytes of %d match %d sequences of %d to %d, not %d", c, howMany(scalar.Bytes(c), sequences), lo, hi, want)
		}
	}
}

// checkDivided divides a range behind last, and holds what the parts match against what the range matches.
func checkDivided(t *testing.T, lo, last, hi int, whole []uint64) {
	t.Helper()
	parts := append(scalar.Sequences(lo, last), scalar.Sequences(last+1, hi)...)
	if !slices.Equal(packed(parts), whole) {
		t.Errorf("%d to %d, divided behind %d, matches other lists", lo, hi, last)
	}
}

// B3: the parts of a range match the lists that the range matches, wherever it is divided.
func TestLawOfParts(t *testing.T) {
	for _, b := range borders {
		for _, r := range [][2]int{{b - 90, b + 90}, {b - 4, b + 300}, {b, b + 70}, {b + 1, b + 64}} {
			whole := packed(scalar.Sequences(r[0], r[1]))
			for last := r[0]; last < r[1]; last++ {
				checkDivided(t, r[0], last, r[1], whole)
			}
		}
	}
}

// B3: great ranges.
func TestLawOfGreatParts(t *testing.T) {
	whole := packed(scalar.Sequences(0, greatest))
	for _, last := range []int{0, 127, 2047, 50000, 55295, 56000, 57343, 65535, 777777} {
		checkDivided(t, 0, last, greatest, whole)
	}
	checkDivided(t, math.MinInt, -7, math.MaxInt, whole)
	checkDivided(t, math.MinInt, greatest+9, math.MaxInt, whole)
	checkDivided(t, math.MinInt, 70000, math.MaxInt, whole)
}

// B2 and R4: the same call again returns the same, and an answer is new memory, whatever was done to the one before.
func TestAnswersAreNew(t *testing.T) {
	for _, r := range [][2]int{{0, greatest}, {0, 127}, {100, 100000}, {5, 4}} {
		want := scalar.Sequences(r[0], r[1])
		changed := scalar.Sequences(r[0], r[1])
		if !reflect.DeepEqual(changed, want) {
			t.Errorf("Sequences(%d, %d) is %v, and then %v", r[0], r[1], want, changed)
		}
		for i := range changed {
			for k := range changed[i] {
				changed[i][k] = api.Range{Lo: -5, Hi: 500}
			}
			changed[i] = nil
		}
		if got := scalar.Sequences(r[0], r[1]); !reflect.DeepEqual(got, want) {
			t.Errorf("Sequences(%d, %d) after a change of its answer: %v", r[0], r[1], got)
		}
	}
	first := scalar.Bytes(8364)
	first[0] = 7
	if got := scalar.Bytes(8364); !slices.Equal(got, []int{226, 130, 172}) {
		t.Errorf("Bytes(8364) after a change of its answer: %v", got)
	}
}

// B2: no two sequences of an answer share memory, not even beyond their lengths.
func TestSequencesAreApart(t *testing.T) {
	got := scalar.Sequences(0, greatest)
	want := scalar.Sequences(0, greatest)
	for i := range got {
		long := append(got[i], api.Range{Lo: -5, Hi: 500})
		long = long[:cap(long)]
		for k := range long {
			long[k] = api.Range{Lo: -5, Hi: 500}
		}
		if i+1 < len(got) && !reflect.DeepEqual(got[i+1:], want[i+1:]) {
			t.Fatalf("a change of the sequence %d changes one behind it", i)
		}
		got[i] = slices.Clone(want[i])
		if !reflect.DeepEqual(got[:i+1], want[:i+1]) {
			t.Fatalf("a change of the sequence %d changes one ahead of it", i)
		}
	}
}
