package tests

import (
	"math"
	"math/big"
	"testing"

	"loop.example/g00488/impl"
)

func bucket(rate, burst, tokens, at int) impl.Bucket {
	return impl.Bucket{Rate: rate, Burst: burst, Tokens: tokens, At: at}
}

func TestBucketNew(t *testing.T) {
	cases := []struct {
		rate, burst int
		ok          bool
	}{
		{0, 0, true}, {2, 5, true}, {99, 999, true}, {0, 999, true}, {99, 0, true},
		{100, 5, false}, {2, 1000, false}, {-1, 5, false}, {2, -1, false}, {math.MinInt, math.MaxInt, false},
	}
	for _, c := range cases {
		b := impl.BucketNew(c.rate, c.burst)
		if b != bucket(c.rate, c.burst, c.burst, 0) {
			t.Errorf("BucketNew(%d, %d) is %+v", c.rate, c.burst, b)
		}
		if got := impl.BucketOk(b); got != c.ok {
			t.Errorf("BucketOk(%+v) is %v", b, got)
		}
	}
}

func TestBucketOk(t *testing.T) {
	cases := []struct {
		b    impl.Bucket
		want bool
	}{
		{impl.Bucket{}, true},
		{bucket(2, 5, 3, 9), true},
		{bucket(99, 999, 999, impl.MaxNum), true},
		{bucket(100, 5, 3, 9), false},
		{bucket(-1, 5, 3, 9), false},
		{bucket(2, 1000, 3, 9), false},
		{bucket(2, -1, -1, 9), false},
		{bucket(2, -1, 0, 9), false},
		{bucket(2, 5, 5, 9), true},
		{bucket(2, 5, 6, 9), false},
		{bucket(2, 5, 0, 9), true},
		{bucket(2, 5, -1, 9), false},
		{bucket(2, 0, 0, 0), true},
		{bucket(2, 0, 1, 0), false},
		{bucket(2, 5, 3, -1), false},
		{bucket(2, 5, 3, impl.MaxNum+1), false},
		{bucket(math.MaxInt, 5, 3, 0), false},
		{bucket(0, math.MaxInt, 3, 0), false},
		{bucket(0, 5, math.MinInt, 0), false},
	}
	for _, c := range cases {
		if got := impl.BucketOk(c.b); got != c.want {
			t.Errorf("BucketOk(%+v) is %v", c.b, got)
		}
	}
}

func TestRefill(t *testing.T) {
	cases := []struct {
		name string
		b    impl.Bucket
		now  int
		want impl.Bucket
	}{
		{"one tick", bucket(2, 5, 1, 0), 1, bucket(2, 5, 3, 1)},
		{"just full", bucket(2, 5, 1, 0), 2, bucket(2, 5, 5, 2)},
		{"more than full", bucket(2, 5, 1, 0), 3, bucket(2, 5, 5, 3)},
		{"the same time", bucket(2, 5, 1, 7), 7, bucket(2, 5, 1, 7)},
		{"a time that is past", bucket(2, 5, 1, 7), 6, bucket(2, 5, 1, 7)},
		{"a time below 0", bucket(2, 5, 1, 7), -1, bucket(2, 5, 1, 7)},
		{"below 0, at 0", bucket(2, 5, 1, 0), -1, bucket(2, 5, 1, 0)},
		{"the least time", bucket(2, 5, 1, 7), math.MinInt, bucket(2, 5, 1, 7)},
		{"MaxNum", bucket(2, 5, 1, 7), impl.MaxNum, bucket(2, 5, 5, impl.MaxNum)},
		{"one above MaxNum", bucket(2, 5, 1, 7), impl.MaxNum + 1, bucket(2, 5, 1, 7)},
		{"the greatest time", bucket(2, 5, 1, 7), math.MaxInt, bucket(2, 5, 1, 7)},
		{"at MaxNum", bucket(2, 5, 1, impl.MaxNum), impl.MaxNum, bucket(2, 5, 1, impl.MaxNum)},
		{"no rate", bucket(0, 5, 1, 7), impl.MaxNum, bucket(0, 5, 1, impl.MaxNum)},
		{"no room", bucket(99, 0, 0, 7), 8, bucket(99, 0, 0, 8)},
		{"amounts that leave the bounds", bucket(99, 999, 0, 0), impl.MaxNum, bucket(99, 999, 999, impl.MaxNum)},
		{"much room", bucket(99, 999, 0, 5), 15, bucket(99, 999, 990, 15)},
		{"the zero one", impl.Bucket{}, 4, bucket(0, 0, 0, 4)},
		{"not right: Rate", bucket(100, 5, 1, 7), 9, bucket(100, 5, 1, 7)},
		{"not right: Rate below 0", bucket(-1, 5, 1, 7), 9, bucket(-1, 5, 1, 7)},
		{"not right: Burst", bucket(2, 1000, 1, 7), 9, bucket(2, 1000, 1, 7)},
		{"not right: Tokens", bucket(2, 5, 6, 7), 9, bucket(2, 5, 6, 7)},
		{"not right: Tokens below 0", bucket(2, 5, -1, 7), 9, bucket(2, 5, -1, 7)},
		{"not right: At", bucket(2, 5, 1, -1), 9, bucket(2, 5, 1, -1)},
	}
	for _, c := range cases {
		if got := impl.Refill(c.b, c.now); got != c.want {
			t.Errorf("Refill, %s: %+v, want %+v", c.name, got, c.want)
		}
	}
}

func TestSpend(t *testing.T) {
	cases := []struct {
		name string
		b    impl.Bucket
		n    int
		want impl.Bucket
		ok   bool
	}{
		{"some", bucket(2, 5, 4, 7), 3, bucket(2, 5, 1, 7), true},
		{"none", bucket(2, 5, 4, 7), 0, bucket(2, 5, 4, 7), true},
		{"none of none", bucket(2, 5, 0, 7), 0, bucket(2, 5, 0, 7), true},
		{"all", bucket(2, 5, 4, 7), 4, bucket(2, 5, 0, 7), true},
		{"all that there may be", bucket(2, 999, 999, 7), 999, bucket(2, 999, 0, 7), true},
		{"one more", bucket(2, 5, 4, 7), 5, bucket(2, 5, 4, 7), false},
		{"below 0", bucket(2, 5, 4, 7), -1, bucket(2, 5, 4, 7), false},
		{"the least", bucket(2, 5, 4, 7), math.MinInt, bucket(2, 5, 4, 7), false},
		{"the greatest", bucket(2, 5, 4, 7), math.MaxInt, bucket(2, 5, 4, 7), false},
		{"not right: Rate", bucket(100, 5, 4, 7), 1, bucket(100, 5, 4, 7), false},
		{"not right: Burst", bucket(2, 1000, 4, 7), 1, bucket(2, 1000, 4, 7), false},
		{"not right: Tokens", bucket(2, 5, 6, 7), 1, bucket(2, 5, 6, 7), false},
		{"not right: At", bucket(2, 5, 4, impl.MaxNum+1), 1, bucket(2, 5, 4, impl.MaxNum+1), false},
		{"not right, none of it", bucket(-1, 5, 4, 7), 0, bucket(-1, 5, 4, 7), false},
	}
	for _, c := range cases {
		if got, ok := impl.Spend(c.b, c.n); got != c.want || ok != c.ok {
			t.Errorf("Spend, %s: %+v, %v, want %+v, %v", c.name, got, ok, c.want, c.ok)
		}
	}
}

func TestMostIn(t *testing.T) {
	cases := []struct {
		b           impl.Bucket
		ticks, want int
	}{
		{bucket(2, 5, 1, 7), 3, 11},
		{bucket(2, 5, 1, 7), 0, 5},
		{bucket(2, 5, 1, 7), -1, 5},
		{bucket(0, 5, 1, 7), 1000, 5},
		{bucket(99, 999, 1, 7), impl.MaxNum, impl.MaxNum},
		{bucket(1, 0, 0, 7), impl.MaxNum, impl.MaxNum},
		{bucket(1, 0, 0, 7), impl.MaxNum + 1, impl.MaxNum},
		{bucket(1, 1, 0, 7), impl.MaxNum - 1, impl.MaxNum},
		{bucket(-3, -5, 0, 7), 4, 0},
		{impl.Bucket{}, 9, 0},
	}
	for _, c := range cases {
		if got := impl.MostIn(c.b, c.ticks); got != c.want {
			t.Errorf("MostIn(%+v, %d) = %d, want %d", c.b, c.ticks, got, c.want)
		}
	}
	for _, burst := range edgeAmounts {
		for _, rate := range edgeAmounts {
			for _, ticks := range edgeAmounts {
				a := wantedCap(big.NewInt(int64(burst)))
				b := wantedCap(big.NewInt(int64(rate)))
				c := wantedCap(big.NewInt(int64(ticks)))
				product := wantedCap(new(big.Int).Mul(b, c))
				want := wantedCap(new(big.Int).Add(a, product))
				if got := impl.MostIn(bucket(rate, burst, 0, 0), ticks); big.NewInt(int64(got)).Cmp(want) != 0 {
					t.Fatalf("MostIn(rate %d, burst %d, ticks %d) = %d, want %v", rate, burst, ticks, got, want)
				}
			}
		}
	}
}

var rightBuckets = []impl.Bucket{
	{}, bucket(0, 5, 2, 3), bucket(1, 0, 0, 0), bucket(1, 9, 0, 4), bucket(2, 5, 5, 1), bucket(3, 10, 1, 0), bucket(99, 999, 0, 7), bucket(99, 999, 998, 0),
	bucket(7, 100, 30, impl.MaxNum-5), bucket(7, 100, 30, impl.MaxNum),
}

// Promise 7, its second half: whatever time lies between.
func TestWhatIsRefilledInTwoPartsIsRefilledInOne(t *testing.T) {
	steps := []int{0, 1, 2, 3, 4, 5, 10, 11, 100, 1000, impl.MaxNum / 2, impl.MaxNum - 5, impl.MaxNum}
	for _, b := range rightBuckets {
		for _, first := range steps {
			for _, second := range steps {
				one, two := b.At+first, b.At+first+second
				if two > impl.MaxNum {
					continue
				}
				if got, want := impl.Refill(impl.Refill(b, one), two), impl.Refill(b, two); got != want {
					t.Errorf("%+v refilled at %d and %d is %+v, at once %+v", b, one, two, got, want)
				}
			}
		}
	}
}

// Promise 7, its first half: a bucket stays right, and has no more than it may, whatever is done with it.
func TestABucketNeverHasMoreThanItMay(t *testing.T) {
	amounts := append([]int{4, 5, 6, 10, 999, 1000}, edgeAmounts...)
	for _, b := range rightBuckets {
		for _, first := range amounts {
			for _, second := range amounts {
				filled := impl.Refill(b, first)
				spent, _ := impl.Spend(filled, second)
				for _, got := range []impl.Bucket{filled, spent, impl.Refill(spent, second)} {
					if !impl.BucketOk(got) || got.Tokens < 0 || got.Tokens > b.Burst || got.Rate != b.Rate || got.Burst != b.Burst || got.At < b.At {
						t.Fatalf("%+v, with %d and %d, became %+v", b, first, second, got)
					}
				}
				if took := filled.Tokens - spent.Tokens; took != 0 && took != second {
					t.Fatalf("%+v, of which %d are to be spent, became %+v", filled, second, spent)
				}
			}
		}
	}
}
