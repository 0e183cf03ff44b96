package tests

import (
	"math"
	"slices"
	"testing"

	"loop.example/g00488/impl"
)

func timer(id, at int) impl.Timer {
	return impl.Timer{Id: id, Trace: 1, At: at}
}

func wheelAt(now int, l ...impl.Timer) impl.Wheel {
	w := impl.Wheel{Now: now, Near: make([][]impl.Timer, 8), Far: make([][]impl.Timer, 8)}
	for _, t := range l {
		lay(&w, t)
	}
	return w
}

// Lays a timer where the document says it belongs, whatever else is wrong with it.
func lay(w *impl.Wheel, t impl.Timer) {
	round := w.Now / 8
	switch {
	case t.At < 8*(round+1):
		w.Near[t.At%8] = append(w.Near[t.At%8], t)
	case t.At < 8*(round+8):
		w.Far[t.At/8%8] = append(w.Far[t.At/8%8], t)
	default:
		w.Rest = append(w.Rest, t)
	}
}

func cloneWheel(w impl.Wheel) impl.Wheel {
	out := impl.Wheel{Now: w.Now, Rest: slices.Clone(w.Rest)}
	for _, l := range w.Near {
		out.Near = append(out.Near, slices.Clone(l))
	}
	for _, l := range w.Far {
		out.Far = append(out.Far, slices.Clone(l))
	}
	return out
}

func sameWheels(a, b impl.Wheel) bool {
	sameSlots := func(l, m [][]impl.Timer) bool { return slices.EqualFunc(l, m, slices.Equal[[]impl.Timer]) }
	return a.Now == b.Now && sameSlots(a.Near, b.Near) && sameSlots(a.Far, b.Far) && slices.Equal(a.Rest, b.Rest)
}

// Writes into all lists of a wheel, and behind them.
func spoilWheel(w impl.Wheel) {
	for _, l := range append(slices.Concat(w.Near, w.Far), w.Rest) {
		for i := range l[:cap(l)] {
			l[:cap(l)][i] = impl.Timer{Id: -7, Trace: -7, At: -7}
		}
	}
	clear(w.Near)
	clear(w.Far)
}

func TestWheelNew(t *testing.T) {
	w := impl.WheelNew()
	if !sameWheels(w, wheelAt(0)) || !impl.WheelOk(w) || len(impl.Timers(w)) != 0 {
		t.Errorf("WheelNew is %+v", w)
	}
	if impl.Slots != 8 || impl.MaxTimers != 16 {
		t.Errorf("Slots is %d, MaxTimers %d", impl.Slots, impl.MaxTimers)
	}
	w.Near[3] = append(w.Near[3], timer(1, 3))
	if again := impl.WheelNew(); !sameWheels(again, wheelAt(0)) {
		t.Errorf("what was done to one new wheel is seen in the next: %+v", again)
	}
}

func TestPutByExample(t *testing.T) {
	cases := []struct {
		name    string
		now, at int
		part    string
		number  int
	}{
		{"one above Now", 0, 1, "near", 1},
		{"the last of Now's round", 0, 7, "near", 7},
		{"the first of the next round", 0, 8, "far", 1},
		{"the last of the next round", 0, 15, "far", 1},
		{"the first of the last far round", 0, 56, "far", 7},
		{"the last of the far rounds", 0, 63, "far", 7},
		{"the first behind them", 0, 64, "rest", 0},
		{"MaxNum", 0, impl.MaxNum, "rest", 0},
		{"one above Now, in a later round", 13, 14, "near", 6},
		{"the last of a later round", 13, 15, "near", 7},
		{"the first of the next one", 13, 16, "far", 2},
		{"the far slot 0", 13, 64, "far", 0},
		{"the last of the far rounds, later", 13, 71, "far", 0},
		{"the first behind them, later", 13, 72, "rest", 0},
		{"the first of a round, when Now is the last of one", 7, 8, "far", 1},
		{"the end of a round, when Now is its first", 8, 15, "near", 7},
		{"the one ahead of MaxNum", impl.MaxNum - 2, impl.MaxNum - 1, "near", 6},
		{"MaxNum, near", impl.MaxNum - 1, impl.MaxNum, "near", 7},
		{"MaxNum, far", impl.MaxNum - 8, impl.MaxNum, "far", 7},
		{"MaxNum, in the rest", impl.MaxNum - 64, impl.MaxNum, "rest", 0},
	}
	for _, c := range cases {
		got, ok := impl.Put(wheelAt(c.now), timer(5, c.at))
		want := wheelAt(c.now)
		switch c.part {
		case "near":
			want.Near[c.number] = []impl.Timer{timer(5, c.at)}
		case "far":
			want.Far[c.number] = []impl.Timer{timer(5, c.at)}
		default:
			want.Rest = []impl.Timer{timer(5, c.at)}
		}
		if !ok || !sameWheels(got, want) || !impl.WheelOk(got) {
			t.Errorf("Put, %s: %+v, %v", c.name, got, ok)
		}
	}
}

func TestPutRefuses(t *testing.T) {
	w := wheelAt(13, timer(1, 15), timer(2, 16), timer(3, 100))
	cases := []struct {
		name string
		t    impl.Timer
	}{
		{"At Now", timer(9, 13)},
		{"At below Now", timer(9, 12)},
		{"At 0", timer(9, 0)},
		{"At below 0", timer(9, -1)},
		{"At a round below 0", timer(9, -9)},
		{"At many rounds below 0", timer(9, -85)},
		{"the least At", timer(9, math.MinInt)},
		{"one above MaxNum", timer(9, impl.MaxNum+1)},
		{"the greatest At", timer(9, math.MaxInt)},
		{"Id 0", timer(0, 20)},
		{"Id below 0", timer(-1, 20)},
		{"an Id of the near slots", timer(1, 100)},
		{"an Id of the far slots", timer(2, 15)},
		{"an Id of the Rest", timer(3, 16)},
		{"all as one that is there", timer(2, 16)},
		{"Trace 0", impl.Timer{Id: 9, Trace: 0, At: 20}},
		{"Trace below 0", impl.Timer{Id: 9, Trace: -1, At: 20}},
		{"Trace 1000", impl.Timer{Id: 9, Trace: 1000, At: 20}},
		{"the zero one", impl.Timer{}},
	}
	for _, c := range cases {
		got, ok := impl.Put(w, c.t)
		if ok || !sameWheels(got, w) {
			t.Errorf("Put, %s: %+v, %v", c.name, got, ok)
		}
	}
	if _, ok := impl.Put(wheelAt(impl.MaxNum), timer(1, impl.MaxNum)); ok {
		t.Error("at MaxNum there is nothing later")
	}
}

func TestPutTakes(t *testing.T) {
	for _, x := range []impl.Timer{
		{Id: 1, Trace: 1, At: 20}, {Id: 1, Trace: 999, At: 20}, {Id: math.MaxInt, Trace: 5, At: 20}, {Id: 2, Trace: 5, At: 14},
	} {
		w := wheelAt(13, timer(7, 14), timer(8, 20))
		want := cloneWheel(w)
		lay(&want, x)
		if got, ok := impl.Put(w, x); !ok || !sameWheels(got, want) {
			t.Errorf("Put(%+v): %+v, %v", x, got, ok)
		}
	}
}

func TestSixteenTimersAndOneMore(t *testing.T) {
	for _, ats := range [][]int{{3}, {60}, {500}, {3, 60, 500}} {
		w := impl.WheelNew()
		for i := range 17 {
			next, ok := impl.Put(w, timer(i+1, ats[i%len(ats)]))
			if want := i < 16; ok != want || !impl.WheelOk(next) {
				t.Fatalf("timer %d at %v: %v", i+1, ats, ok)
			}
			if !ok && !sameWheels(next, w) {
				t.Errorf("one too many changed the wheel: %+v", next)
			}
			w = next
		}
		if got := len(impl.Timers(w)); got != 16 {
			t.Errorf("%d timers", got)
		}
		lay(&w, timer(17, ats[0]))
		if impl.WheelOk(w) {
			t.Error("a wheel of 17 is right")
		}
	}
}

// Each of these makes a right wheel wrong.
func wrongWheels() map[string]impl.Wheel {
	changes := map[string]func(w *impl.Wheel){
		"Now below 0":                  func(w *impl.Wheel) { *w = wheelAt(0); w.Now = -1 },
		"Now above MaxNum":             func(w *impl.Wheel) { *w = wheelAt(0); w.Now = impl.MaxNum + 1 },
		"no near slots":                func(w *impl.Wheel) { w.Near = nil },
		"7 near slots":                 func(w *impl.Wheel) { w.Near = w.Near[:7] },
		"9 near slots":                 func(w *impl.Wheel) { w.Near = append(w.Near, nil) },
		"no far slots":                 func(w *impl.Wheel) { w.Far = nil },
		"7 far slots":                  func(w *impl.Wheel) { w.Far = w.Far[:7] },
		"9 far slots":                  func(w *impl.Wheel) { w.Far = append(w.Far, nil) },
		"the zero one":                 func(w *impl.Wheel) { *w = impl.Wheel{} },
		"in the wrong near slot":       func(w *impl.Wheel) { w.Near[5] = []impl.Timer{timer(9, 14)} },
		"near, in the next round":      func(w *impl.Wheel) { w.Near[0] = []impl.Timer{timer(9, 16)} },
		"near, due later":              func(w *impl.Wheel) { w.Near[0] = []impl.Timer{timer(9, 200)} },
		"in the wrong far slot":        func(w *impl.Wheel) { w.Far[3] = []impl.Timer{timer(9, 17)} },
		"far, in Now's round":          func(w *impl.Wheel) { w.Far[1] = []impl.Timer{timer(9, 15)} },
		"far, in the round behind all": func(w *impl.Wheel) { w.Far[1] = []impl.Timer{timer(9, 72)} },
		"in the Rest, but near":        func(w *impl.Wheel) { w.Rest = append(w.Rest, timer(9, 15)) },
		"in the Rest, but far":         func(w *impl.Wheel) { w.Rest = append(w.Rest, timer(9, 71)) },
		"due Now":                      func(w *impl.Wheel) { w.Near[5] = []impl.Timer{timer(9, 13)} },
		"past":                         func(w *impl.Wheel) { w.Near[4] = []impl.Timer{timer(9, 12)} },
		"past, a round ago":            func(w *impl.Wheel) { w.Near[7] = []impl.Timer{timer(9, 7)} },
		"below 0":                      func(w *impl.Wheel) { w.Near[7] = []impl.Timer{timer(9, -1)} },
		"the least At":                 func(w *impl.Wheel) { w.Near[0] = []impl.Timer{timer(9, math.MinInt)} },
		"one above MaxNum":             func(w *impl.Wheel) { w.Rest = append(w.Rest, timer(9, impl.MaxNum+1)) },
		"the greatest At":              func(w *impl.Wheel) { w.Rest = append(w.Rest, timer(9, math.MaxInt)) },
		"Id 0":                         func(w *impl.Wheel) { w.Near[7][0].Id = 0 },
		"Id below 0":                   func(w *impl.Wheel) { w.Rest[0].Id = -4 },
		"Trace 0":                      func(w *impl.Wheel) { w.Far[2][0].Trace = 0 },
		"Trace 1000":                   func(w *impl.Wheel) { w.Far[2][0].Trace = 1000 },
		"one Id near and far":          func(w *impl.Wheel) { w.Near[7][0].Id = w.Far[2][0].Id },
		"one Id far and in the Rest":   func(w *impl.Wheel) { w.Rest[0].Id = w.Far[2][0].Id },
		"one Id in one slot":           func(w *impl.Wheel) { w.Far[2] = append(w.Far[2], w.Far[2][0]) },
		"17 timers": func(w *impl.Wheel) {
			for i := range 14 {
				lay(w, timer(20+i, 300))
			}
		},
		"very many timers": func(w *impl.Wheel) { w.Rest = slices.Repeat(w.Rest, 100000) },
	}
	out := map[string]impl.Wheel{}
	for name, change := range changes {
		w := wheelAt(13, timer(1, 15), timer(2, 16), timer(3, 100))
		change(&w)
		out[name] = w
	}
	return out
}

func TestWrongWheels(t *testing.T) {
	if !impl.WheelOk(wheelAt(13, timer(1, 15), timer(2, 16), timer(3, 100))) {
		t.Fatal("the wheel that is changed is not right")
	}
	for name, w := range wrongWheels() {
		before := cloneWheel(w)
		if impl.WheelOk(w) {
			t.Errorf("%s: it is right", name)
		}
		if got, ok := impl.Put(w, timer(99, 15)); ok || !sameWheels(got, before) {
			t.Errorf("%s: Put is %v", name, ok)
		}
		if got, ok := impl.Cancel(w, 1); ok || !sameWheels(got, before) {
			t.Errorf("%s: Cancel is %v", name, ok)
		}
		if want := slices.Concat(append(slices.Concat(before.Near, before.Far), before.Rest)...); !slices.Equal(impl.Timers(w), want) {
			t.Errorf("%s: Timers differ", name)
		}
		if !sameWheels(w, before) {
			t.Errorf("%s: the wheel was changed", name)
		}
	}
}

func TestWheelOkAtTheEnds(t *testing.T) {
	for _, w := range []impl.Wheel{
		wheelAt(0), wheelAt(impl.MaxNum), wheelAt(impl.MaxNum-1, timer(1, impl.MaxNum)), wheelAt(7, timer(1, 8), timer(2, 63), timer(3, 64)),
		wheelAt(13, timer(1, 14), timer(2, 15), timer(math.MaxInt, 16), timer(4, 71), timer(5, 72), timer(6, impl.MaxNum)),
	} {
		if !impl.WheelOk(w) {
			t.Errorf("%+v is not right", w)
		}
	}
}

func TestCancel(t *testing.T) {
	l := []impl.Timer{timer(1, 15), timer(2, 15), timer(3, 15), timer(4, 30), timer(5, 31), timer(6, 100), timer(7, 90), timer(8, 100)}
	w := wheelAt(13, l...)
	for _, x := range l {
		want := wheelAt(13, slices.DeleteFunc(slices.Clone(l), func(t impl.Timer) bool { return t == x })...)
		got, ok := impl.Cancel(w, x.Id)
		if !ok || !sameWheels(got, want) {
			t.Errorf("Cancel(%d): %+v, %v", x.Id, got, ok)
		}
		if again, ok := impl.Cancel(got, x.Id); ok || !sameWheels(again, want) {
			t.Errorf("Cancel(%d) a second time: %+v, %v", x.Id, again, ok)
		}
	}
	for _, id := range []int{0, -1, 9, math.MinInt, math.MaxInt} {
		if got, ok := impl.Cancel(w, id); ok || !sameWheels(got, w) {
			t.Errorf("Cancel(%d): %+v, %v", id, got, ok)
		}
	}
	if _, ok := impl.Cancel(impl.WheelNew(), 1); ok {
		t.Error("something was taken out of a new wheel")
	}
}

func TestTimersInOrder(t *testing.T) {
	w := wheelAt(5, timer(1, 200), timer(2, 100), timer(3, 9), timer(4, 7), timer(5, 6), timer(6, 60), timer(7, 64), timer(8, 7), timer(9, 8))
	ids := []int{}
	for _, x := range impl.Timers(w) {
		ids = append(ids, x.Id)
	}
	if want := []int{5, 4, 8, 3, 9, 6, 1, 2, 7}; !slices.Equal(ids, want) {
		t.Errorf("Timers are %v, want %v", ids, want)
	}
	odd := impl.Wheel{Near: [][]impl.Timer{{timer(1, -1)}, nil}, Far: [][]impl.Timer{{}, {timer(1, -1), {}}}, Rest: []impl.Timer{timer(0, 0)}}
	if got, want := impl.Timers(odd), []impl.Timer{timer(1, -1), timer(1, -1), {}, timer(0, 0)}; !slices.Equal(got, want) {
		t.Errorf("Timers of a wrong wheel are %v, want %v", got, want)
	}
	if got := impl.Timers(impl.Wheel{}); len(got) != 0 {
		t.Errorf("Timers of the zero wheel are %v", got)
	}
}

// Promise 8: puts and cancels in turn, at several times, beside a list of what must be there.
func TestWhatIsPutIsThereOnceUntilItIsTakenOut(t *testing.T) {
	for _, now := range []int{0, 5, 7, 8, 13, 1000, impl.MaxNum - 70, impl.MaxNum - 3} {
		w, there := wheelAt(now), []impl.Timer{}
		seed := uint32(now) + 1
		next := func(n int) int {
			seed = seed*1664525 + 1013904223
			return int(seed>>16) % n
		}
		for range 600 {
			x := impl.Timer{Id: next(24), Trace: 1 + next(999), At: now + next(90)}
			place := slices.IndexFunc(there, func(y impl.Timer) bool { return y.Id == x.Id })
			if next(3) == 0 {
				got, ok := impl.Cancel(w, x.Id)
				if ok != (place >= 0) {
					t.Fatalf("Cancel(%d) of %v: %v", x.Id, there, ok)
				}
				if ok {
					there = slices.Delete(there, place, place+1)
				}
				w = got
			} else {
				got, ok := impl.Put(w, x)
				if want := place < 0 && x.Id > 0 && x.At > now && x.At <= impl.MaxNum && len(there) < 16; ok != want {
					t.Fatalf("Put(%+v) beside %v: %v", x, there, ok)
				}
				if ok {
					there = append(there, x)
				}
				w = got
			}
			if want := wheelAt(now, there...); !impl.WheelOk(w) || !sameWheels(w, want) {
				t.Fatalf("the wheel is %+v, want %+v", w, want)
			}
			if got := impl.Timers(w); len(got) != len(there) || slices.ContainsFunc(there, func(y impl.Timer) bool { return !slices.Contains(got, y) }) {
				t.Fatalf("Timers are %v, want those of %v", got, there)
			}
		}
	}
}

func TestWheelsAreNewMemory(t *testing.T) {
	w := wheelAt(13, timer(1, 15), timer(2, 15), timer(3, 16), timer(4, 17), timer(5, 100), timer(6, 200))
	answers := map[string]func() impl.Wheel{
		"Put near":    func() impl.Wheel { x, _ := impl.Put(w, timer(9, 15)); return x },
		"Put far":     func() impl.Wheel { x, _ := impl.Put(w, timer(9, 16)); return x },
		"Put later":   func() impl.Wheel { x, _ := impl.Put(w, timer(9, 300)); return x },
		"Put refused": func() impl.Wheel { x, _ := impl.Put(w, timer(1, 15)); return x },
		"Cancel":      func() impl.Wheel { x, _ := impl.Cancel(w, 1); return x },
		"Cancel none": func() impl.Wheel { x, _ := impl.Cancel(w, 99); return x },
	}
	before := cloneWheel(w)
	for name, answer := range answers {
		got := answer()
		want := cloneWheel(got)
		for _, l := range append(slices.Concat(got.Near, got.Far), got.Rest) {
			_ = append(l, timer(-7, -7))
		}
		if !sameWheels(got, want) {
			t.Errorf("%s: behind one list of the answer stands another one", name)
		}
		spoilWheel(got)
		if !sameWheels(w, before) {
			t.Fatalf("%s: what was done to the answer is seen in the wheel", name)
		}
	}
	l := impl.Timers(w)
	clear(l[:cap(l)])
	if !sameWheels(w, before) {
		t.Error("Timers: what was done to the answer is seen in the wheel")
	}
}

func TestNothingIsWrittenBehindASlot(t *testing.T) {
	room := []impl.Timer{timer(1, 15), timer(-7, -7), timer(-7, -7)}
	rest := slices.Clone(room)
	rest[0].At = 500
	w := wheelAt(13)
	w.Near[7], w.Rest = room[:1], rest[:1]
	w.Rest[0].Id = 2
	for _, at := range []int{15, 600} {
		if _, ok := impl.Put(w, timer(5, at)); !ok {
			t.Fatal("what lies behind a slot was looked at")
		}
	}
	if len(impl.Timers(w)) != 2 || room[1] != timer(-7, -7) || rest[1] != timer(-7, -7) {
		t.Errorf("what lies behind a slot was touched: %v, %v", room, rest)
	}
}
