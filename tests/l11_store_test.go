package tests

import (
	"math"
	"slices"
	"testing"

	"loop.example/g00488/impl"
)

// So many stripes that nobody holds, with the trails where they belong, in the order in which they are given.
func stripesOf(n int, l ...impl.Trail) []impl.Stripe {
	out := make([]impl.Stripe, n)
	for i := range out {
		out[i].Held = -1
	}
	for _, x := range l {
		i := wantedMix(x.Id) % n
		out[i].L = append(out[i].L, x)
	}
	return out
}

func sameStripes(l, m []impl.Stripe) bool {
	return slices.EqualFunc(l, m, func(a, b impl.Stripe) bool { return a.Held == b.Held && sameTrails(a.L, b.L) })
}

func allTrails(l []impl.Stripe) []impl.Trail {
	out := []impl.Trail{}
	for _, s := range l {
		out = append(out, s.L...)
	}
	return out
}

// The first Ids above 0 that belong to a stripe of so many.
func idsIn(stripe, stripes, many int) []int {
	out := []int{}
	for id := 1; len(out) < many; id++ {
		if wantedMix(id)%stripes == stripe {
			out = append(out, id)
		}
	}
	return out
}

func fiveTrails() []impl.Trail {
	return []impl.Trail{trail(1, 5, 20, 1), trail(2, 4, 20, 1, 2), trail(3, 3, 25, 1), trail(4, 2, 21, 1), trail(5, 1, 22, 3)}
}

func TestStripesOkAtEveryEdge(t *testing.T) {
	a, b := idsIn(0, 3, 3), idsIn(1, 3, 2)
	right := func() []impl.Stripe {
		return stripesOf(3, trail(a[0], 1, 9, 1), trail(a[1], 2, 8, 1), trail(a[2], 3, 7, 1, 2), trail(b[0], 4, 0, 1), trail(b[1], 9, 1, 1))
	}
	cases := []struct {
		name   string
		change func(l []impl.Stripe) []impl.Stripe
		want   bool
	}{
		{"as it is", func(l []impl.Stripe) []impl.Stripe { return l }, true},
		{"nil", func(l []impl.Stripe) []impl.Stripe { return nil }, false},
		{"no stripes", func(l []impl.Stripe) []impl.Stripe { return l[:0] }, false},
		{"one stripe", func(l []impl.Stripe) []impl.Stripe { return stripesOf(1, fiveTrails()...) }, true},
		{"two stripes", func(l []impl.Stripe) []impl.Stripe { return stripesOf(2, fiveTrails()...) }, true},
		{"three stripes", func(l []impl.Stripe) []impl.Stripe { return stripesOf(3, fiveTrails()...) }, true},
		{"four stripes", func(l []impl.Stripe) []impl.Stripe { return stripesOf(4, fiveTrails()...) }, false},
		{"three of nothing", func(l []impl.Stripe) []impl.Stripe { return stripesOf(3) }, true},
		{"four of nothing", func(l []impl.Stripe) []impl.Stripe { return stripesOf(4) }, false},
		{"Held -2", func(l []impl.Stripe) []impl.Stripe { l[0].Held = -2; return l }, false},
		{"Held -1", func(l []impl.Stripe) []impl.Stripe { l[0].Held = -1; return l }, true},
		{"Held 0", func(l []impl.Stripe) []impl.Stripe { l[1].Held = 0; return l }, true},
		{"Held 4", func(l []impl.Stripe) []impl.Stripe { l[2].Held = 4; return l }, true},
		{"Held 5", func(l []impl.Stripe) []impl.Stripe { l[2].Held = 5; return l }, false},
		{"two held by one", func(l []impl.Stripe) []impl.Stripe { l[1].Held, l[2].Held = 3, 3; return l }, true},
		{"a trail of nothing", func(l []impl.Stripe) []impl.Stripe { l[0].L[2].Spans = nil; return l }, false},
		{"a trail of Stamp 0", func(l []impl.Stripe) []impl.Stripe { l[1].L[0].Stamp = 0; return l }, false},
		{"the zero trail", func(l []impl.Stripe) []impl.Stripe { l[2].L = []impl.Trail{{}}; return l }, false},
		{"a trail of Id 0", func(l []impl.Stripe) []impl.Stripe { return stripesOf(1, trail(0, 1, 0, 1)) }, false},
		{"a trail in another stripe", func(l []impl.Stripe) []impl.Stripe { l[2].L, l[1].L = l[1].L[1:], l[1].L[:1]; return l }, false},
		{"stripes exchanged", func(l []impl.Stripe) []impl.Stripe { l[0], l[1] = l[1], l[0]; return l }, false},
		{"two of one Id", func(l []impl.Stripe) []impl.Stripe { l[0].L[1] = trail(a[0], 2, 8, 1); return l }, false},
		{"out of order", func(l []impl.Stripe) []impl.Stripe { slices.Reverse(l[0].L); return l }, false},
		{"the last two out of order", func(l []impl.Stripe) []impl.Stripe { slices.Reverse(l[0].L[1:]); return l }, false},
		{"two of one Stamp in a stripe", func(l []impl.Stripe) []impl.Stripe { l[0].L[2].Stamp = 1; return l }, false},
		{"two of one Stamp in different stripes", func(l []impl.Stripe) []impl.Stripe { l[1].L[1].Stamp = 2; return l }, false},
		{"as old as each other", func(l []impl.Stripe) []impl.Stripe { l[1].L[1].First = 9; return l }, true},
	}
	for _, c := range cases {
		l := c.change(right())
		if got := impl.StripesOk(l); got != c.want {
			t.Errorf("StripesOk, %s: %v", c.name, got)
		}
	}
}

func TestHeldBytes(t *testing.T) {
	for n := 1; n <= 4; n++ {
		if got := impl.HeldBytes(stripesOf(n, fiveTrails()...)); got != 6*17 {
			t.Errorf("of %d stripes: %d", n, got)
		}
	}
	if impl.HeldBytes(nil) != 0 || impl.HeldBytes(stripesOf(3)) != 0 || impl.HeldBytes([]impl.Stripe{{L: []impl.Trail{{}}}}) != 0 {
		t.Error("nothing takes something")
	}
	if got := impl.HeldBytes([]impl.Stripe{{L: []impl.Trail{trail(1, 1, 1, 1), trail(1, 1, 1, 1)}}, {Held: 9, L: []impl.Trail{{Spans: []impl.Span{fullSpan(), {}}}}}}); got != 2*17+96+12 {
		t.Errorf("of what is not right: %d", got)
	}
}

func TestOldestOf(t *testing.T) {
	cases := []struct {
		name string
		l    []impl.Stripe
		want impl.Trail
		ok   bool
	}{
		{"nil", nil, impl.Trail{}, false},
		{"no stripes", []impl.Stripe{}, impl.Trail{}, false},
		{"no trails", stripesOf(3), impl.Trail{}, false},
		{"one", stripesOf(2, trail(7, 3, 9, 1)), trail(7, 3, 9, 1), true},
		{"the zero one", []impl.Stripe{{L: []impl.Trail{{}}}}, impl.Trail{}, true},
		{"the first in the first stripe", []impl.Stripe{{L: []impl.Trail{trail(1, 1, 4, 1), trail(2, 2, 5, 1)}}, {L: []impl.Trail{trail(3, 3, 6, 1)}}}, trail(1, 1, 4, 1), true},
		{"the last in the first stripe", []impl.Stripe{{L: []impl.Trail{trail(1, 1, 4, 1), trail(2, 2, 3, 1)}}, {L: []impl.Trail{trail(3, 3, 6, 1)}}}, trail(2, 2, 3, 1), true},
		{"in the second stripe", []impl.Stripe{{L: []impl.Trail{trail(1, 1, 4, 1)}}, {L: []impl.Trail{trail(4, 5, 4, 1), trail(3, 3, 2, 1)}}, {L: []impl.Trail{trail(9, 9, 9, 1)}}}, trail(3, 3, 2, 1), true},
		{"in the third stripe", []impl.Stripe{{L: []impl.Trail{trail(1, 1, 4, 1)}}, {}, {L: []impl.Trail{trail(3, 3, 2, 1)}}}, trail(3, 3, 2, 1), true},
		{"as old, the Stamp says", []impl.Stripe{{L: []impl.Trail{trail(1, 7, 4, 1), trail(2, 6, 4, 1)}}, {L: []impl.Trail{trail(3, 5, 4, 1), trail(4, 8, 4, 1)}}}, trail(3, 5, 4, 1), true},
		{"a lesser Stamp, but later", []impl.Stripe{{L: []impl.Trail{trail(1, 1, 5, 1), trail(2, 6, 4, 1)}}}, trail(2, 6, 4, 1), true},
		{"all alike, the first by stripes", []impl.Stripe{{}, {L: []impl.Trail{trail(9, 2, 4, 1), trail(3, 2, 4, 2)}}, {L: []impl.Trail{trail(1, 2, 4, 3)}}}, trail(9, 2, 4, 1), true},
		{"alike behind a younger one", []impl.Stripe{{L: []impl.Trail{trail(1, 3, 4, 1)}}, {L: []impl.Trail{trail(9, 2, 4, 1), trail(3, 2, 4, 2)}}, {L: []impl.Trail{trail(2, 2, 4, 3)}}}, trail(9, 2, 4, 1), true},
		{"below 0", []impl.Stripe{{L: []impl.Trail{trail(1, 3, 0, 1), trail(1, 3, math.MinInt, 2), trail(1, -9, -1, 1)}}}, trail(1, 3, math.MinInt, 2), true},
		{"more stripes than there may be", stripesOf(9, fiveTrails()...), trail(2, 4, 20, 1, 2), true},
	}
	for _, c := range cases {
		got, ok := impl.OldestOf(c.l)
		if ok != c.ok || !sameTrails([]impl.Trail{got}, []impl.Trail{c.want}) {
			t.Errorf("OldestOf, %s: %+v, %v", c.name, got, ok)
		}
	}
}

// The oldest one, for lists in which many are alike, at every place in its turn.
func TestNoOtherIsOlder(t *testing.T) {
	seed := uint32(11)
	for size := range 40 {
		l := make([]impl.Stripe, 3)
		for i := range size {
			seed = seed*1664525 + 1013904223
			at := i * 3 / size
			l[at].L = append(l[at].L, trail(1+i, int(seed>>10)%3, int(seed>>20)%4, 1))
		}
		all := allTrails(l)
		want := slices.IndexFunc(all, func(x impl.Trail) bool {
			return !slices.ContainsFunc(all, func(y impl.Trail) bool { return impl.Older(y, x) })
		})
		got, ok := impl.OldestOf(l)
		if ok != (want >= 0) || ok && !sameTrails([]impl.Trail{got}, all[want:want+1]) {
			t.Errorf("OldestOf(%+v) is %+v, %v", l, got, ok)
		}
	}
}

func TestOpenTrails(t *testing.T) {
	for n := 1; n <= 4; n++ {
		if got := impl.OpenTrails(stripesOf(n, fiveTrails()...)); !sameTrails(got, fiveTrails()) {
			t.Errorf("of %d stripes: %+v", n, got)
		}
	}
	l := []impl.Stripe{{L: []impl.Trail{trail(7, 1, 9, 1), trail(3, 2, 9, 1)}}, {L: []impl.Trail{trail(3, 3, 1, 2), trail(-2, 4, 0), trail(3, 5, 0, 3)}}, {L: []impl.Trail{trail(7, 6, 0, 2), trail(1, 7, 0, 1), trail(3, 8, 0, 4)}}}
	want := []impl.Trail{trail(-2, 4, 0), trail(1, 7, 0, 1), trail(3, 2, 9, 1), trail(3, 3, 1, 2), trail(3, 5, 0, 3), trail(3, 8, 0, 4), trail(7, 1, 9, 1), trail(7, 6, 0, 2)}
	if got := impl.OpenTrails(l); !sameTrails(got, want) {
		t.Errorf("OpenTrails is %+v, want %+v", got, want)
	}
	if len(impl.OpenTrails(nil)) != 0 || len(impl.OpenTrails(stripesOf(3))) != 0 {
		t.Error("there are trails where none is")
	}
	many := make([]impl.Stripe, 3)
	for i := range 90 {
		many[i%3].L = append(many[i%3].L, trail(1+i%2, i, 0, 1))
	}
	if !slices.IsSortedFunc(impl.OpenTrails(many), func(a, b impl.Trail) int { return (a.Id-b.Id)*1000 + (a.Stamp%3-b.Stamp%3)*100 + a.Stamp - b.Stamp }) {
		t.Error("many alike ones do not stand as they stood")
	}
}

func TestFindTrail(t *testing.T) {
	for n := 1; n <= 4; n++ {
		l := stripesOf(n, fiveTrails()...)
		for _, want := range fiveTrails() {
			if got, ok := impl.FindTrail(l, want.Id); !ok || !sameTrails([]impl.Trail{got}, []impl.Trail{want}) {
				t.Errorf("of %d stripes: FindTrail(%d) is %+v, %v", n, want.Id, got, ok)
			}
		}
		for _, id := range []int{0, 6, -1, 999, math.MinInt, math.MaxInt, 1 + 1<<16} {
			if got, ok := impl.FindTrail(l, id); ok || !sameTrails([]impl.Trail{got}, []impl.Trail{{}}) {
				t.Errorf("of %d stripes: FindTrail(%d) is %+v, %v", n, id, got, ok)
			}
		}
	}
	if _, ok := impl.FindTrail(nil, 0); ok {
		t.Error("found in no stripes")
	}
}

func TestTrailsInStripesThatAreNotTheirOwn(t *testing.T) {
	id := idsIn(1, 2, 1)[0]
	l := []impl.Stripe{{Held: 2, L: []impl.Trail{trail(id, 1, 5, 1)}}, {Held: -1}}
	if got, ok := impl.FindTrail(l, id); ok {
		t.Errorf("FindTrail is %+v", got)
	}
	if got := impl.DropTrail(l, id); !sameStripes(got, l) {
		t.Errorf("DropTrail is %+v", got)
	}
	l[1].L = []impl.Trail{trail(id+1000, 9, 9, 1), trail(id, 2, 6, 2), trail(id, 3, 7, 3)}
	if got, ok := impl.FindTrail(l, id); !ok || got.Stamp != 2 {
		t.Errorf("the first of two: %+v, %v", got, ok)
	}
	want := []impl.Stripe{{Held: 2, L: []impl.Trail{trail(id, 1, 5, 1)}}, {Held: -1, L: []impl.Trail{trail(id+1000, 9, 9, 1), trail(id, 3, 7, 3)}}}
	if got := impl.DropTrail(l, id); !sameStripes(got, want) {
		t.Errorf("the first of two is dropped: %+v", got)
	}
}

func TestFindAndDropBelowNought(t *testing.T) {
	for _, id := range []int{-1, -2, -5, -65536, math.MinInt, math.MinInt + 3, 0, math.MaxInt} {
		l := stripesOf(3)
		l[wantedMix(id)%3].L = []impl.Trail{trail(id, 4, 5, 1)}
		if got, ok := impl.FindTrail(l, id); !ok || got.Id != id {
			t.Errorf("FindTrail(%d) is %+v, %v", id, got, ok)
		}
		if got := impl.DropTrail(l, id); !sameStripes(got, stripesOf(3)) {
			t.Errorf("DropTrail(%d) is %+v", id, got)
		}
	}
}

// Promise 11.
func TestWhatIsDroppedIsGoneAndNothingElse(t *testing.T) {
	all := fiveTrails()
	for _, id := range []int{40, 41, 42, 43, 44, 998, 999} {
		all = append(all, trail(id, id, id, 1, 2))
	}
	for n := 1; n <= 4; n++ {
		l := stripesOf(n, all...)
		l[0].Held = 3
		for _, id := range []int{1, 2, 3, 4, 5, 40, 41, 42, 43, 44, 998, 999, 0, -1, 6, 1000, math.MinInt, math.MaxInt} {
			got := impl.DropTrail(l, id)
			rest := slices.DeleteFunc(slices.Clone(all), func(x impl.Trail) bool { return x.Id == id })
			want := stripesOf(n, rest...)
			want[0].Held = 3
			if !sameStripes(got, want) {
				t.Errorf("of %d stripes: DropTrail(%d) is %+v", n, id, got)
			}
			if _, ok := impl.FindTrail(got, id); ok {
				t.Errorf("of %d stripes: %d is still there", n, id)
			}
			if n <= 3 && !impl.StripesOk(got) {
				t.Errorf("of %d stripes: without %d they are not right", n, id)
			}
		}
	}
	if got := impl.DropTrail(nil, 3); len(got) != 0 {
		t.Errorf("dropped of nothing: %+v", got)
	}
}

func TestStripesAreNewMemory(t *testing.T) {
	same := fiveTrails()[1]
	for _, given := range [][]impl.Stripe{stripesOf(1, fiveTrails()...), stripesOf(2, fiveTrails()...), stripesOf(3), nil, {{L: []impl.Trail{same, same}}, {L: []impl.Trail{same}}}} {
		l := roomy(given)
		check := watched(l)
		for _, id := range []int{0, 1, 2, 3, 4, 5, 6} {
			found, _ := impl.FindTrail(l, id)
			dropped := impl.DropTrail(l, id)
			apart(t, "FindTrail, DropTrail", []any{found, dropped}, l)
		}
		oldest, _ := impl.OldestOf(l)
		apart(t, "OldestOf, OpenTrails", []any{oldest, impl.OpenTrails(l)}, l)
		impl.StripesOk(l)
		impl.HeldBytes(l)
		check(t, "they")
	}
	if l := roomy(stripesOf(2, fiveTrails()...)); !impl.StripesOk(l) || impl.HeldBytes(l) != 6*17 || len(impl.OpenTrails(l)) != 5 {
		t.Error("what lies behind a list was looked at")
	}
}
