package tests

import (
	"math"
	"slices"
	"testing"

	"loop.example/g00488/impl"
)

// What the document asks of Mix, on a list of 16 bits, the lowest one first.
func wantedMix(n int) int {
	var bits [16]bool
	for i := range bits {
		bits[i] = n>>i&1 == 1
	}
	moved := func(by int) [16]bool {
		var out [16]bool
		for i, b := range bits {
			if to := i + by; to >= 0 && to < 16 {
				out[to] = b
			}
		}
		return out
	}
	for _, by := range []int{7, -9, 8} {
		for i, b := range moved(by) {
			bits[i] = bits[i] != b
		}
	}
	out := 0
	for i, b := range bits {
		if b {
			out += 1 << i
		}
	}
	return out
}

var edgeTraces = []int{
	math.MinInt, math.MinInt + 1, -65537, -65536, -65535, -32768, -2, -1, 0, 1, 2, 3, 127, 128, 255, 256, 511, 512, 999,
	1000, 32767, 32768, 65534, 65535, 65536, 65537, 131071, impl.MaxNum, impl.MaxNum + 1, math.MaxInt - 1, math.MaxInt,
}

func TestMixByExample(t *testing.T) {
	cases := []struct{ n, want int }{
		{0, 0}, {1, 33153}, {65536, 0}, {65537, 33153}, {-65536, 0}, {-65535, 33153},
	}
	for _, c := range cases {
		if got := impl.Mix(c.n); got != c.want {
			t.Errorf("Mix(%d) = %d, want %d", c.n, got, c.want)
		}
	}
	if got, want := impl.Mix(-1), impl.Mix(65535); got != want {
		t.Errorf("Mix(-1) = %d, want %d", got, want)
	}
}

func TestMixBitByBit(t *testing.T) {
	for _, n := range edgeTraces {
		if got, want := impl.Mix(n), wantedMix(n); got != want {
			t.Errorf("Mix(%d) = %d, want %d", n, got, want)
		}
	}
	for n := range 65536 {
		if got, want := impl.Mix(n), wantedMix(n); got != want {
			t.Fatalf("Mix(%d) = %d, want %d", n, got, want)
		}
	}
}

// Promise 4. What lies above the lowest 16 bits counts for nothing, below 0 neither.
func TestNoTwoAreMixedToOne(t *testing.T) {
	for _, base := range []int{0, 65536, -65536, -1 << 40} {
		var from [65536]int
		for i := range from {
			from[i] = -1
		}
		for n := range from {
			got := impl.Mix(base + n)
			if got < 0 || got > 65535 {
				t.Fatalf("Mix(%d) = %d, which has more than 16 bits", base+n, got)
			}
			if from[got] >= 0 {
				t.Fatalf("Mix(%d) = Mix(%d) = %d", base+n, base+from[got], got)
			}
			from[got] = n
		}
	}
}

func TestStripeOf(t *testing.T) {
	cases := []struct{ trace, n, want int }{
		{1, 1, 0}, {1, 2, 1}, {1, 3, 0}, {1, 4, 1}, {1, 33153, 0}, {1, 33154, 33153}, {1, 65536, 33153}, {1, math.MaxInt, 33153},
		{0, 3, 0}, {-1, 1, 0}, {5, 0, 0}, {5, -1, 0}, {1, 0, 0}, {1, -2, 0}, {1, math.MinInt, 0},
	}
	for _, c := range cases {
		if got := impl.StripeOf(c.trace, c.n); got != c.want {
			t.Errorf("StripeOf(%d, %d) = %d, want %d", c.trace, c.n, got, c.want)
		}
	}
	for _, trace := range edgeTraces {
		for _, n := range []int{1, 2, 3, 4, 7, 65536, math.MaxInt} {
			if got, want := impl.StripeOf(trace, n), wantedMix(trace)%n; got != want {
				t.Errorf("StripeOf(%d, %d) = %d, want %d", trace, n, got, want)
			}
		}
	}
}

func TestSpread(t *testing.T) {
	cases := []struct {
		l    []int
		n    int
		want []int
	}{
		{[]int{1, 1, 0}, 2, []int{1, 2}},
		{[]int{1, 1, 0}, 1, []int{3}},
		{[]int{1, 1, 0}, 3, []int{3, 0, 0}},
		{nil, 1, []int{0}},
		{nil, 3, []int{0, 0, 0}},
		{[]int{}, 2, []int{0, 0}},
		{nil, 0, nil},
		{[]int{1}, 0, nil},
		{[]int{1}, 4, nil},
		{[]int{1}, -1, nil},
		{[]int{1}, math.MinInt, nil},
		{[]int{1}, math.MaxInt, nil},
	}
	for _, c := range cases {
		if got := impl.Spread(c.l, c.n); !slices.Equal(got, c.want) {
			t.Errorf("Spread(%v, %d) = %v, want %v", c.l, c.n, got, c.want)
		}
	}
}

func TestSpreadOfMany(t *testing.T) {
	many := slices.Clone(edgeTraces)
	for i := range 70000 {
		many = append(many, i-1000)
	}
	before := slices.Clone(many)
	for n := 1; n <= impl.MaxStripes; n++ {
		want := make([]int, n)
		for _, trace := range many {
			want[impl.StripeOf(trace, n)]++
		}
		got := impl.Spread(many, n)
		if !slices.Equal(got, want) {
			t.Errorf("Spread of many, %d = %v, want %v", n, got, want)
		}
		got[0] = -1
		if again := impl.Spread(many, n); !slices.Equal(again, want) {
			t.Errorf("what was done to one answer is seen in the next: %v", again)
		}
	}
	if !slices.Equal(many, before) {
		t.Error("the list was changed")
	}
}

func TestMaxStripes(t *testing.T) {
	if impl.MaxStripes != 3 {
		t.Errorf("MaxStripes is %d", impl.MaxStripes)
	}
}
