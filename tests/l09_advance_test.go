package tests

import (
	"math"
	"slices"
	"testing"

	"loop.example/g00488/impl"
)

func idsOf(l []impl.Timer) []int {
	out := []int{}
	for _, t := range l {
		out = append(out, t.Id)
	}
	return out
}

// What the chapter says of one tick, word by word, for a wheel that is right and not at its end.
func wantedTick(w impl.Wheel) (impl.Wheel, []impl.Timer) {
	w = cloneWheel(w)
	w.Now++
	due := w.Near[w.Now%8]
	w.Near[w.Now%8] = nil
	if w.Now%8 != 0 {
		return w, due
	}
	moved := slices.Concat(w.Far[w.Now/8%8], w.Rest)
	w.Far[w.Now/8%8], w.Rest = nil, nil
	for _, t := range moved {
		if t.At == w.Now {
			due = append(due, t)
		} else {
			lay(&w, t)
		}
	}
	return w, due
}

func TestTickOnByExample(t *testing.T) {
	cases := []struct {
		name string
		w    impl.Wheel
		want impl.Wheel
		due  []int
	}{
		{"nothing there", wheelAt(0), wheelAt(1), nil},
		{"nothing there, a round begins", wheelAt(7), wheelAt(8), nil},
		{"due at the next", wheelAt(3, timer(1, 4)), wheelAt(4), []int{1}},
		{"due one later", wheelAt(3, timer(1, 5)), wheelAt(4, timer(1, 5)), nil},
		{"several in one slot", wheelAt(3, timer(9, 4), timer(2, 4), timer(5, 4), timer(1, 5)), wheelAt(4, timer(1, 5)), []int{9, 2, 5}},
		{"far ones stay far within a round", wheelAt(5, timer(1, 8), timer(2, 64)), wheelAt(6, timer(1, 8), timer(2, 64)), nil},
		{"the last of a round", wheelAt(6, timer(1, 7), timer(2, 8)), wheelAt(7, timer(2, 8)), []int{1}},
		{"due just when a round begins", wheelAt(7, timer(1, 8)), wheelAt(8), []int{1}},
		{"one later than a round begins", wheelAt(7, timer(1, 9)), wheelAt(8, timer(1, 9)), nil},
		{"a whole round comes near", wheelAt(7, timer(3, 15), timer(1, 8), timer(2, 9), timer(5, 8), timer(4, 15)), wheelAt(8, timer(3, 15), timer(2, 9), timer(4, 15)), []int{1, 5}},
		{"another far slot stays", wheelAt(7, timer(1, 16), timer(2, 9)), wheelAt(8, timer(1, 16), timer(2, 9)), nil},
		{"of the Rest to the last far slot", wheelAt(7, timer(1, 64), timer(2, 71), timer(3, 72)), wheelAt(8, timer(1, 64), timer(2, 71), timer(3, 72)), nil},
		{"the Rest keeps its order", wheelAt(7, timer(5, 200), timer(1, 64), timer(4, 100), timer(2, 65)), wheelAt(8, timer(5, 200), timer(4, 100), timer(1, 64), timer(2, 65)), nil},
		{"the far slot 0", wheelAt(63, timer(1, 64), timer(2, 70), timer(3, 128)), wheelAt(64, timer(2, 70), timer(3, 128)), []int{1}},
		{"one below MaxNum", wheelAt(impl.MaxNum-1, timer(1, impl.MaxNum)), wheelAt(impl.MaxNum), []int{1}},
		{"two below MaxNum", wheelAt(impl.MaxNum-2, timer(1, impl.MaxNum), timer(2, impl.MaxNum-1)), wheelAt(impl.MaxNum-1, timer(1, impl.MaxNum)), []int{2}},
		{"the last round begins", wheelAt(impl.MaxNum-8, timer(1, impl.MaxNum), timer(2, impl.MaxNum-7)), wheelAt(impl.MaxNum-7, timer(1, impl.MaxNum)), []int{2}},
		{"MaxNum", wheelAt(impl.MaxNum), wheelAt(impl.MaxNum), nil},
	}
	for _, c := range cases {
		got, due := impl.TickOn(c.w)
		if !sameWheels(got, c.want) || !slices.Equal(idsOf(due), c.due) || !impl.WheelOk(got) {
			t.Errorf("TickOn, %s: %+v, %v", c.name, got, due)
		}
	}
}

func TestWhatWasInTheRestComesNear(t *testing.T) {
	w := wheelAt(0, timer(1, 64), timer(2, 72), timer(3, 79), timer(4, 80), timer(5, 73))
	steps := []struct {
		now                  int
		near, far, rest, due []int
	}{
		{7, nil, nil, []int{1, 2, 3, 4, 5}, nil},
		{8, nil, []int{1}, []int{2, 3, 4, 5}, nil},
		{16, nil, []int{2, 3, 5, 1}, []int{4}, nil},
		{24, nil, []int{1, 2, 3, 5, 4}, nil, nil},
		{64, nil, []int{2, 3, 5, 4}, nil, []int{1}},
		{72, []int{5, 3}, []int{4}, nil, []int{2}},
		{73, []int{3}, []int{4}, nil, []int{5}},
		{79, nil, []int{4}, nil, []int{3}},
		{80, nil, nil, nil, []int{4}},
	}
	for _, s := range steps {
		next, due := impl.Advance(w, s.now-w.Now)
		w = next
		if !slices.Equal(idsOf(slices.Concat(w.Near...)), s.near) {
			t.Errorf("at %d: near are %v", s.now, w.Near)
		}
		far := idsOf(slices.Concat(w.Far...))
		slices.Sort(far)
		slices.Sort(s.far)
		if !slices.Equal(far, s.far) || !slices.Equal(idsOf(w.Rest), s.rest) {
			t.Errorf("at %d: far are %v, the Rest is %v", s.now, w.Far, w.Rest)
		}
		if w.Now != s.now || !slices.Equal(idsOf(due), s.due) || !impl.WheelOk(w) {
			t.Errorf("at %d: due are %v", s.now, due)
		}
	}
}

func TestAdvanceTakesSoManyTicks(t *testing.T) {
	w := wheelAt(5, timer(1, 6), timer(2, 7), timer(3, 8), timer(4, 204), timer(5, 205), timer(6, 206))
	cases := []struct {
		ticks, now int
		due        []int
	}{
		{0, 5, nil}, {1, 6, []int{1}}, {2, 7, []int{1, 2}}, {3, 8, []int{1, 2, 3}}, {199, 204, []int{1, 2, 3, 4}}, {200, 205, []int{1, 2, 3, 4, 5}},
		{201, 5, nil}, {-1, 5, nil}, {math.MinInt, 5, nil}, {math.MaxInt, 5, nil},
	}
	for _, c := range cases {
		got, due := impl.Advance(w, c.ticks)
		if got.Now != c.now || !slices.Equal(idsOf(due), c.due) || len(impl.Timers(got)) != 6-len(c.due) || !impl.WheelOk(got) {
			t.Errorf("Advance by %d: %+v, %v", c.ticks, got, due)
		}
		if c.now == 5 && !sameWheels(got, w) {
			t.Errorf("Advance by %d is not the wheel itself: %+v", c.ticks, got)
		}
	}
}

func TestAdvanceStopsAtTheEnd(t *testing.T) {
	w := wheelAt(impl.MaxNum-3, timer(1, impl.MaxNum), timer(2, impl.MaxNum-1))
	for _, ticks := range []int{3, 4, 200} {
		if got, due := impl.Advance(w, ticks); !sameWheels(got, wheelAt(impl.MaxNum)) || !slices.Equal(idsOf(due), []int{2, 1}) {
			t.Errorf("Advance by %d: %+v, %v", ticks, got, due)
		}
	}
}

func TestWrongWheelsDoNotGoOn(t *testing.T) {
	for name, w := range wrongWheels() {
		before := cloneWheel(w)
		if got, due := impl.TickOn(w); len(due) != 0 || !sameWheels(got, before) {
			t.Errorf("%s: TickOn is %+v, %v", name, got, due)
		}
		for _, ticks := range []int{-1, 0, 1, 2, 8, 200, 201} {
			if got, due := impl.Advance(w, ticks); len(due) != 0 || !sameWheels(got, before) {
				t.Errorf("%s: Advance by %d is %+v, %v", name, ticks, got, due)
			}
		}
		if !sameWheels(w, before) {
			t.Errorf("%s: the wheel was changed", name)
		}
	}
}

func TestDueBy(t *testing.T) {
	w := wheelAt(13, timer(9, 15), timer(2, 15), timer(7, 14), timer(5, 16), timer(1, 30), timer(4, 100), timer(3, 90))
	cases := []struct {
		at   int
		want []int
	}{
		{math.MinInt, nil}, {-1, nil}, {0, nil}, {13, nil}, {14, []int{7}}, {15, []int{2, 7, 9}}, {16, []int{2, 5, 7, 9}}, {29, []int{2, 5, 7, 9}}, {30, []int{1, 2, 5, 7, 9}},
		{89, []int{1, 2, 5, 7, 9}}, {90, []int{1, 2, 3, 5, 7, 9}}, {99, []int{1, 2, 3, 5, 7, 9}}, {100, []int{1, 2, 3, 4, 5, 7, 9}}, {impl.MaxNum, []int{1, 2, 3, 4, 5, 7, 9}}, {math.MaxInt, []int{1, 2, 3, 4, 5, 7, 9}},
	}
	for _, c := range cases {
		if got := impl.DueBy(w, c.at); !slices.Equal(got, c.want) {
			t.Errorf("DueBy(%d) is %v, want %v", c.at, got, c.want)
		}
	}
	if got := impl.DueBy(impl.WheelNew(), math.MaxInt); len(got) != 0 {
		t.Errorf("of a new wheel are due %v", got)
	}
}

// A wheel that is not right has timers all the same.
func TestDueByAndNextDueOfWrongWheels(t *testing.T) {
	odd := impl.Wheel{Now: -3, Near: [][]impl.Timer{{timer(4, 3), timer(4, 9)}}, Far: [][]impl.Timer{nil, {timer(-2, 5), timer(4, -8)}}, Rest: []impl.Timer{timer(0, 3), timer(4, 3)}}
	cases := []struct {
		at   int
		want []int
	}{
		{-9, nil}, {-8, []int{4}}, {0, []int{4}}, {3, []int{0, 4, 4, 4}}, {5, []int{-2, 0, 4, 4, 4}}, {9, []int{-2, 0, 4, 4, 4, 4}},
	}
	for _, c := range cases {
		if got := impl.DueBy(odd, c.at); !slices.Equal(got, c.want) {
			t.Errorf("DueBy(%d) is %v, want %v", c.at, got, c.want)
		}
	}
	if got := impl.NextDue(odd); got != -8 {
		t.Errorf("NextDue is %d", got)
	}
	if got := impl.NextDue(impl.Wheel{}); got != -1 || len(impl.DueBy(impl.Wheel{}, 9)) != 0 {
		t.Errorf("NextDue of the zero wheel is %d", got)
	}
	if got := impl.NextDue(impl.Wheel{Rest: []impl.Timer{timer(1, math.MaxInt)}}); got != math.MaxInt {
		t.Errorf("NextDue is %d", got)
	}
	if got := impl.NextDue(impl.Wheel{Rest: []impl.Timer{timer(1, 0), timer(2, 5)}}); got != 0 {
		t.Errorf("NextDue is %d", got)
	}
}

func TestNextDue(t *testing.T) {
	cases := []struct {
		name string
		w    impl.Wheel
		want int
	}{
		{"none", impl.WheelNew(), -1},
		{"one", wheelAt(13, timer(1, 15)), 15},
		{"in the near slots", wheelAt(13, timer(3, 100), timer(2, 20), timer(1, 15), timer(4, 14)), 14},
		{"in the far ones", wheelAt(13, timer(3, 100), timer(2, 23), timer(1, 17), timer(4, 20), timer(5, 18)), 17},
		{"in a far slot of a lesser number", wheelAt(50, timer(1, 100), timer(2, 56)), 56},
		{"in the far slot 0, which is the last", wheelAt(8, timer(1, 64), timer(2, 16)), 16},
		{"in the Rest", wheelAt(13, timer(3, 300), timer(2, 200), timer(1, 250)), 200},
		{"MaxNum", wheelAt(13, timer(3, impl.MaxNum)), impl.MaxNum},
	}
	for _, c := range cases {
		if got := impl.NextDue(c.w); got != c.want {
			t.Errorf("NextDue, %s: %d, want %d", c.name, got, c.want)
		}
	}
}

// Wheels of many kinds, each right, at several times.
func rightWheels() []impl.Wheel {
	out := []impl.Wheel{}
	for _, now := range []int{0, 1, 6, 7, 8, 13, 55, 63, 64, 1000, impl.MaxNum - 300, impl.MaxNum - 71, impl.MaxNum - 8, impl.MaxNum - 7, impl.MaxNum - 2} {
		seed := uint32(now) + 5
		for size := range 17 {
			w := wheelAt(now)
			for i := range size {
				seed = seed*1664525 + 1013904223
				far := []int{4, 20, 90, 240}[seed>>20%4]
				if x := (impl.Timer{Id: 1 + (i*7)%17, Trace: 1 + i, At: now + 1 + int(seed>>8)%far}); x.At <= impl.MaxNum {
					lay(&w, x)
				}
			}
			out = append(out, w)
		}
	}
	return out
}

// Promise 9.
func TestWhatIsDueComesOnceNeitherTooEarlyNorTooLate(t *testing.T) {
	for _, start := range rightWheels() {
		w, came := start, []impl.Timer{}
		for ticks := 1; ticks <= 200; ticks++ {
			want, wantDue := w, []impl.Timer(nil)
			if w.Now < impl.MaxNum {
				want, wantDue = wantedTick(w)
			}
			next, due := impl.TickOn(w)
			if !sameWheels(next, want) || !slices.Equal(due, wantDue) || !impl.WheelOk(next) {
				t.Fatalf("TickOn(%+v): %+v, %v, want %+v, %v", w, next, due, want, wantDue)
			}
			if w.Now < impl.MaxNum && slices.ContainsFunc(due, func(x impl.Timer) bool { return x.At != next.Now }) {
				t.Fatalf("at %d came %v", next.Now, due)
			}
			came = append(came, due...)
			ids := idsOf(came)
			slices.Sort(ids)
			if by := impl.DueBy(start, next.Now); !slices.Equal(ids, by) {
				t.Fatalf("by %d came %v, due were %v", next.Now, ids, by)
			}
			w = next
			if all, allDue := impl.Advance(start, ticks); ticks%9 == 1 && (!sameWheels(all, w) || !slices.Equal(allDue, came)) {
				t.Fatalf("Advance(%+v, %d): %+v, %v, want %+v, %v", start, ticks, all, allDue, w, came)
			}
		}
	}
}

func TestTicksInTwoParts(t *testing.T) {
	for _, start := range rightWheels() {
		for _, parts := range [][2]int{{0, 5}, {5, 0}, {1, 7}, {3, 8}, {8, 64}, {100, 100}, {17, 60}} {
			once, onceDue := impl.Advance(start, parts[0]+parts[1])
			half, firstDue := impl.Advance(start, parts[0])
			twice, secondDue := impl.Advance(half, parts[1])
			if !sameWheels(once, twice) || !slices.Equal(onceDue, append(firstDue, secondDue...)) {
				t.Fatalf("Advance(%+v) by %v in two parts differs", start, parts)
			}
		}
	}
}

func TestNothingComesAheadOfNextDue(t *testing.T) {
	for _, w := range rightWheels() {
		next := impl.NextDue(w)
		if next < 0 || next-w.Now > 200 {
			continue
		}
		if _, due := impl.Advance(w, next-w.Now-1); len(due) != 0 {
			t.Errorf("%v came ahead of %d", due, next)
		}
		if _, due := impl.Advance(w, next-w.Now); len(due) == 0 || due[0].At != next {
			t.Errorf("at %d came %v", next, due)
		}
	}
}

func TestAdvancedWheelsAreNewMemory(t *testing.T) {
	for _, now := range []int{5, 7, 13, 15} {
		w := wheelAt(now, timer(1, 16), timer(2, 16), timer(3, 17), timer(4, 24), timer(5, 100), timer(6, 200), timer(7, 80))
		before := cloneWheel(w)
		for _, ticks := range []int{-1, 0, 1, 2, 3, 9, 11, 200, 201} {
			got, due := impl.Advance(w, ticks)
			want := cloneWheel(got)
			for i := range due[:cap(due)] {
				due[:cap(due)][i] = timer(-7, -7)
			}
			for _, l := range append(slices.Concat(got.Near, got.Far), got.Rest) {
				_ = append(l, timer(-7, -7))
			}
			if !sameWheels(got, want) {
				t.Errorf("by %d: two lists of the answer are one", ticks)
			}
			spoilWheel(got)
			if !sameWheels(w, before) {
				t.Fatalf("by %d: what was done to the answer is seen in the wheel", ticks)
			}
		}
		one, due := impl.TickOn(w)
		want := cloneWheel(one)
		for i := range due[:cap(due)] {
			due[:cap(due)][i] = timer(-7, -7)
		}
		if !sameWheels(one, want) {
			t.Error("TickOn: what is due and what is not are one list")
		}
		spoilWheel(one)
		if !sameWheels(w, before) {
			t.Fatal("TickOn: what was done to the answer is seen in the wheel")
		}
	}
}

func TestNothingIsWrittenBehindWhatMoves(t *testing.T) {
	mark := timer(-7, -7)
	near, far, rest := []impl.Timer{timer(1, 15), mark, mark}, []impl.Timer{timer(2, 17), mark, mark}, []impl.Timer{timer(3, 90), mark, mark}
	w := wheelAt(14)
	w.Near[7], w.Far[2], w.Rest = near[:1], far[:1], rest[:1]
	if got, due := impl.Advance(w, 2); !sameWheels(got, wheelAt(16, timer(2, 17), timer(3, 90))) || !slices.Equal(due, []impl.Timer{timer(1, 15)}) {
		t.Errorf("Advance is %+v, %v", got, due)
	}
	for _, l := range [][]impl.Timer{near, far, rest} {
		if l[1] != mark || l[2] != mark {
			t.Errorf("what lies behind a slot was touched: %v", l)
		}
	}
	if impl.DueBy(w, 999); impl.NextDue(w) != 15 || near[0] != timer(1, 15) {
		t.Error("the wheel was changed")
	}
}
