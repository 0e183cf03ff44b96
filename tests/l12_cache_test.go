package tests

import (
	"math"
	"slices"
	"testing"

	"loop.example/g00488/impl"
)

func verdict(trace, stamp int) impl.Verdict {
	return impl.Verdict{Trace: trace, Stamp: stamp, Keep: stamp%2 == 0}
}

// Judgments of the trails, with Stamps from 1 on.
func verdictsOf(traces ...int) []impl.Verdict {
	out := []impl.Verdict{}
	for i, n := range traces {
		out = append(out, verdict(n, i+1))
	}
	return out
}

func TestCacheOkAtEveryEdge(t *testing.T) {
	cases := []struct {
		name string
		l    []impl.Verdict
		most int
		want bool
	}{
		{"nil, 0", nil, 0, true},
		{"nothing, 0", []impl.Verdict{}, 0, true},
		{"nil, below 0", nil, -1, false},
		{"nil, the least", nil, math.MinInt, false},
		{"nil, MaxCache", nil, impl.MaxCache, true},
		{"one, 0", verdictsOf(1), 0, false},
		{"one, below 0", verdictsOf(1), -1, false},
		{"one, 1", verdictsOf(1), 1, true},
		{"two, 1", verdictsOf(1, 2), 1, false},
		{"as many as there are", verdictsOf(3, 1, 2), 3, true},
		{"one fewer", verdictsOf(3, 1, 2), 2, false},
		{"one more", verdictsOf(3, 1, 2), 4, true},
		{"MaxCache of them", verdictsOf(6, 5, 4, 3, 2, 1), impl.MaxCache, true},
		{"one above MaxCache", verdictsOf(6, 5, 4, 3, 2, 1, 7), impl.MaxCache, false},
		{"more than MaxCache may be", verdictsOf(6, 5, 4, 3, 2, 1, 7), 7, true},
		{"the greatest", verdictsOf(6, 5), math.MaxInt, true},
		{"Trace 0", verdictsOf(1, 0), 6, false},
		{"Trace 999", verdictsOf(999, 1), 6, true},
		{"Trace 1000", verdictsOf(1000, 1), 6, false},
		{"Trace below 0", verdictsOf(1, -1), 6, false},
		{"Stamp 0", []impl.Verdict{verdict(1, 1), verdict(2, 0)}, 6, false},
		{"Stamp below 0", []impl.Verdict{verdict(1, -1)}, 6, false},
		{"Stamp 1", []impl.Verdict{verdict(1, 1)}, 6, true},
		{"the greatest Stamp", []impl.Verdict{verdict(1, math.MaxInt)}, 6, true},
		{"two of one Stamp", []impl.Verdict{verdict(1, 4), verdict(2, 4)}, 6, true},
		{"two of one Trace, side by side", verdictsOf(1, 2, 2), 6, false},
		{"two of one Trace, apart", verdictsOf(2, 1, 2), 6, false},
		{"two alike", []impl.Verdict{verdict(1, 4), verdict(1, 4)}, 6, false},
		{"the zero one", []impl.Verdict{{}}, 6, false},
	}
	for _, c := range cases {
		if got := impl.CacheOk(c.l, c.most); got != c.want {
			t.Errorf("CacheOk, %s: %v", c.name, got)
		}
	}
	if impl.MaxCache != 6 {
		t.Errorf("MaxCache is %d", impl.MaxCache)
	}
}

func TestVerdictOf(t *testing.T) {
	l := []impl.Verdict{verdict(5, 1), verdict(3, 2), verdict(9, 3), verdict(3, 4), {Trace: -1, Keep: true}, {}}
	for trace, want := range map[int]impl.Verdict{5: l[0], 3: l[1], 9: l[2], -1: l[4], 0: l[5]} {
		if got, ok := impl.VerdictOf(l, trace); !ok || got != want {
			t.Errorf("VerdictOf(%d) is %+v, %v", trace, got, ok)
		}
	}
	for _, trace := range []int{1, 4, 1000, math.MinInt, math.MaxInt} {
		if got, ok := impl.VerdictOf(l, trace); ok || got != (impl.Verdict{}) {
			t.Errorf("VerdictOf(%d) is %+v, %v", trace, got, ok)
		}
	}
	if got, ok := impl.VerdictOf(nil, 0); ok || got != (impl.Verdict{}) {
		t.Errorf("VerdictOf nothing is %+v, %v", got, ok)
	}
	if _, ok := impl.VerdictOf(l[:1], 3); ok {
		t.Error("found behind the list")
	}
}

func TestRememberByExample(t *testing.T) {
	v := verdict(7, 70)
	cases := []struct {
		name string
		l    []int
		most int
		want []int
		gone int
	}{
		{"into nothing", nil, 1, []int{7}, 0},
		{"into nothing, MaxCache", nil, impl.MaxCache, []int{7}, 0},
		{"there is room", []int{1, 2}, 3, []int{1, 2, 7}, 0},
		{"there is more room", []int{1, 2}, 6, []int{1, 2, 7}, 0},
		{"no room", []int{1, 2, 3}, 3, []int{2, 3, 7}, 1},
		{"room for one", []int{1}, 1, []int{7}, 1},
		{"room for one of many", []int{1, 2, 3}, 1, []int{7}, 3},
		{"full, MaxCache", []int{1, 2, 3, 4, 5, 6}, impl.MaxCache, []int{2, 3, 4, 5, 6, 7}, 1},
		{"more than there may be", []int{1, 2, 3, 4, 5}, 2, []int{5, 7}, 4},
		{"anew, the first", []int{7, 1, 2}, 3, []int{1, 2, 7}, 0},
		{"anew, in the midst", []int{1, 7, 2}, 3, []int{1, 2, 7}, 0},
		{"anew, the last", []int{1, 2, 7}, 3, []int{1, 2, 7}, 0},
		{"anew, alone", []int{7}, 1, []int{7}, 0},
		{"anew, of more than there may be", []int{1, 7, 2, 3}, 2, []int{3, 7}, 2},
		{"anew, just as many", []int{1, 7, 2, 7, 3}, 4, []int{1, 2, 3, 7}, 0},
		{"there many times", []int{7, 1, 7, 7, 2, 7}, 2, []int{2, 7}, 1},
		{"there alone, many times", []int{7, 7, 7}, 1, []int{7}, 0},
		{"others there twice", []int{1, 2, 1, 2}, 4, []int{2, 1, 2, 7}, 1},
		{"others there twice, and go", []int{3, 1, 2, 1, 2}, 3, []int{1, 2, 7}, 2},
		{"what goes has no Trace", []int{1, 0}, 1, []int{7}, 0},
		{"what goes has one below 0", []int{1, -4}, 1, []int{7}, -4},
		{"the greatest most", []int{1, 2}, math.MaxInt, []int{1, 2, 7}, 0},
	}
	for _, c := range cases {
		given := verdictsOf(c.l...)
		got, gone := impl.Remember(given, v, c.most)
		traces := []int{}
		for _, x := range got {
			traces = append(traces, x.Trace)
			if x.Trace != 7 && !slices.Contains(given, x) {
				t.Errorf("Remember, %s: %+v was not there", c.name, x)
			}
		}
		if !slices.Equal(traces, c.want) || gone != c.gone || got[len(got)-1] != v {
			t.Errorf("Remember, %s: %+v, %d", c.name, got, gone)
		}
	}
}

func TestRememberKeepsWhatIsNewest(t *testing.T) {
	l := []impl.Verdict{verdict(1, 1), verdict(2, 2), verdict(1, 3), verdict(2, 4)}
	if got, gone := impl.Remember(l, verdict(9, 9), 3); !slices.Equal(got, []impl.Verdict{l[2], l[3], verdict(9, 9)}) || gone != 2 {
		t.Errorf("Remember is %+v, %d", got, gone)
	}
	if got, gone := impl.Remember(l, impl.Verdict{}, 5); !slices.Equal(got, append(slices.Clone(l), impl.Verdict{})) || gone != 0 {
		t.Errorf("Remember of the zero one is %+v, %d", got, gone)
	}
}

func TestRememberWithoutRoom(t *testing.T) {
	for _, most := range []int{0, -1, math.MinInt} {
		for _, l := range [][]impl.Verdict{nil, verdictsOf(1), verdictsOf(7, 1, 7), verdictsOf(1, 2, 3, 4, 5, 6, 7, 8)} {
			if got, gone := impl.Remember(l, verdict(7, 70), most); !slices.Equal(got, l) || gone != 0 {
				t.Errorf("Remember(%v) with %d is %v, %d", l, most, got, gone)
			}
		}
	}
}

// Promise 12, and that what is remembered is right, and what went is told.
func TestNoMoreIsRememberedThanMayBe(t *testing.T) {
	for most := 1; most <= 7; most++ {
		l, seed := []impl.Verdict{}, uint32(most)
		for step := range 300 {
			seed = seed*1664525 + 1013904223
			v := verdict(1+int(seed>>16)%10, step+1)
			next, gone := impl.Remember(l, v, most)
			if len(next) > most || !impl.CacheOk(next, most) || next[len(next)-1] != v {
				t.Fatalf("Remember(%v, %v, %d) is %v", l, v, most, next)
			}
			forgotten := impl.Forgets(l, next)
			if _, known := impl.VerdictOf(l, v.Trace); known || len(l) < most {
				if gone != 0 || len(forgotten) != 0 {
					t.Fatalf("Remember(%v, %v, %d) forgets %v, and tells %d", l, v, most, forgotten, gone)
				}
			} else if gone != l[0].Trace || !slices.Equal(forgotten, []int{gone}) {
				t.Fatalf("Remember(%v, %v, %d) forgets %v, and tells %d", l, v, most, forgotten, gone)
			}
			l = next
		}
		for fewer := range most + 2 {
			if got, _ := impl.Remember(l, verdict(99, 1), fewer); fewer > 0 && len(got) > fewer {
				t.Errorf("of %d, where there may be %d, are left %d", len(l), fewer, len(got))
			}
		}
	}
}

func TestForgets(t *testing.T) {
	cases := []struct{ l, m, want []int }{
		{nil, nil, nil},
		{nil, []int{1, 2}, nil},
		{[]int{1, 2}, nil, []int{1, 2}},
		{[]int{3, 1, 2}, []int{2, 3, 1}, nil},
		{[]int{3, 1, 2}, []int{1}, []int{3, 2}},
		{[]int{3, 1, 2}, []int{3, 9, 3}, []int{1, 2}},
		{[]int{3, 1, 2}, []int{7, 8}, []int{3, 1, 2}},
		{[]int{4, 1, 4, 2, 4}, []int{2}, []int{4, 1, 4, 4}},
		{[]int{4, 1, 4, 2, 4}, []int{4}, []int{1, 2}},
		{[]int{0, -1, math.MinInt, math.MaxInt}, []int{-1, math.MaxInt}, []int{0, math.MinInt}},
		{[]int{5}, []int{0}, []int{5}},
	}
	for _, c := range cases {
		if got := impl.Forgets(verdictsOf(c.l...), verdictsOf(c.m...)); !slices.Equal(got, c.want) {
			t.Errorf("Forgets(%v, %v) is %v, want %v", c.l, c.m, got, c.want)
		}
	}
	if got := impl.Forgets([]impl.Verdict{{Trace: 5, Stamp: 1, Keep: true}}, []impl.Verdict{{Trace: 5, Stamp: 2}}); len(got) != 0 {
		t.Errorf("another Stamp of the same Trace: %v", got)
	}
}

func TestCachesAreNewMemory(t *testing.T) {
	for _, l := range [][]impl.Verdict{nil, verdictsOf(1), verdictsOf(7, 1, 7), verdictsOf(1, 2, 3, 4, 5, 6, 7, 8)} {
		l, m := roomy(l), roomy(verdictsOf(7, 4))
		check := watched(l, m)
		for _, most := range []int{-1, 0, 1, 2, 6, 9} {
			got, _ := impl.Remember(l, verdict(7, 70), most)
			apart(t, "Remember, Forgets", []any{got, impl.Forgets(l, m)}, l, m)
			impl.CacheOk(l, most)
		}
		impl.VerdictOf(l, 7)
		check(t, "they")
	}
}
