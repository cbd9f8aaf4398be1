package sense_test

import (
	"math"
	"slices"
	"testing"
	"unicode/utf8"

	"reglet/scalar"
	"reglet/sense"
)

func bytesAre(t *testing.T, n int, utf bool, want ...int) {
	t.Helper()
	if got := sense.Bytes(n, utf); !slices.Equal(got, want) {
		t.Errorf("bytes of %d, utf %v: %v, want %v", n, utf, got, want)
	}
}

// F1: the borders.
func TestBytes(t *testing.T) {
	for _, x := range []struct {
		n             int
		with, without []int
	}{
		{-1, nil, nil}, {-128, nil, nil}, {-256, nil, nil},
		{0, []int{0}, []int{0}}, {1, []int{1}, []int{1}}, {65, []int{65}, []int{65}}, {126, []int{126}, []int{126}}, {127, []int{127}, []int{127}},
		{128, []int{194, 128}, []int{128}}, {129, []int{194, 129}, []int{129}}, {233, []int{195, 169}, []int{233}}, {254, []int{195, 190}, []int{254}}, {255, []int{195, 191}, []int{255}},
		{256, []int{196, 128}, nil}, {257, []int{196, 129}, nil}, {2047, []int{223, 191}, nil}, {2048, []int{224, 160, 128}, nil},
		{55295, []int{237, 159, 191}, nil}, {55296, nil, nil}, {56320, nil, nil}, {57343, nil, nil}, {57344, []int{238, 128, 128}, nil},
		{65533, []int{239, 191, 189}, nil}, {65535, []int{239, 191, 191}, nil}, {65536, []int{240, 144, 128, 128}, nil},
		{1114111, []int{244, 143, 191, 191}, nil}, {1114112, nil, nil}, {2097151, nil, nil},
		// Numbers of which the lowest bits are those of a byte or of a scalar value.
		{1<<32 + 65, nil, nil}, {1 << 32, nil, nil}, {1<<32 + 233, nil, nil}, {-1 << 32, nil, nil}, {65 - 1<<32, nil, nil}, {65 - 256, nil, nil}, {1<<62 + 65, nil, nil},
		{math.MaxInt, nil, nil}, {math.MinInt, nil, nil}, {math.MinInt + 65, nil, nil}, {math.MaxInt32, nil, nil}, {math.MinInt32, nil, nil},
	} {
		bytesAre(t, x.n, true, x.with...)
		bytesAre(t, x.n, false, x.without...)
	}
}

// F1: each number up to beyond the last scalar value.
func TestAllBytes(t *testing.T) {
	for n := -3000; n <= greatest+3000; n++ {
		var with, without []int
		if utf8.ValidRune(rune(n)) {
			for _, b := range []byte(string(rune(n))) {
				with = append(with, int(b))
			}
		}
		if n >= 0 && n < 256 {
			without = []int{n}
		}
		bytesAre(t, n, true, with...)
		bytesAre(t, n, true, scalar.Bytes(n)...)
		bytesAre(t, n, false, without...)
	}
}

// R3: each answer is memory of its own.
func TestBytesMemory(t *testing.T) {
	for _, utf := range []bool{true, false} {
		for _, n := range []int{0, 65, 127, 200, 255, 300, greatest} {
			want := slices.Clone(sense.Bytes(n, utf))
			got := sense.Bytes(n, utf)
			for i := range got[:cap(got)] {
				got[:cap(got)][i] = -7
			}
			bytesAre(t, n, utf, want...)
		}
	}
}
