package tests

import (
	"fmt"
	"math"
	"slices"
	"testing"

	"loop.example/g00488/impl"
)

// Things that all differ from rightSpan in just one part, also in what is said of them.
func nearlyRightSpans() map[string]impl.Span {
	changes := map[string]func(s *impl.Span){
		"Trace":         func(s *impl.Span) { s.Trace++ },
		"Id":            func(s *impl.Span) { s.Id++ },
		"Start":         func(s *impl.Span) { s.Start++ },
		"End":           func(s *impl.Span) { s.End++ },
		"Err":           func(s *impl.Span) { s.Err = !s.Err },
		"no Attrs":      func(s *impl.Span) { s.Attrs = nil },
		"one Attr less": func(s *impl.Span) { s.Attrs = s.Attrs[:1] },
		"one Attr more": func(s *impl.Span) { s.Attrs = append(s.Attrs, numAttr("x", 1)) },
		"a zero Attr":   func(s *impl.Span) { s.Attrs = append(s.Attrs, impl.Attr{}) },
		"turned round":  func(s *impl.Span) { slices.Reverse(s.Attrs) },
		"Key":           func(s *impl.Span) { s.Attrs[0].Key = "codf" },
		"N":             func(s *impl.Span) { s.Attrs[0].N++ },
		"N of a text":   func(s *impl.Span) { s.Attrs[1].N++ },
		"Num":           func(s *impl.Span) { s.Attrs[1].Num = true },
		"Text":          func(s *impl.Span) { s.Attrs[1].Text = "w" },
		"no Text":       func(s *impl.Span) { s.Attrs[1].Text = "" },
		"Text of a number": func(s *impl.Span) {
			s.Attrs[0].Text = "v"
		},
		"a text that goes on as if it were the next one": func(s *impl.Span) {
			s.Attrs[0].Text = " 1 k no 0 1 v"
			s.Attrs = s.Attrs[:1]
		},
		"a Key that goes on": func(s *impl.Span) { s.Attrs[0].Key = "code yes" },
		"below 0":            func(s *impl.Span) { s.Start = -3 },
	}
	out := map[string]impl.Span{}
	for name, change := range changes {
		s := cloneSpan(rightSpan())
		change(&s)
		out[name] = s
	}
	return out
}

func TestSameBagOfOneThing(t *testing.T) {
	a := rightSpan()
	all := nearlyRightSpans()
	if !impl.SameBag([]impl.Span{a}, []impl.Span{cloneSpan(a)}) {
		t.Error("a thing and itself")
	}
	for name, b := range all {
		for other, c := range all {
			if got := impl.SameBag([]impl.Span{b}, []impl.Span{cloneSpan(c)}); got != (name == other) {
				t.Errorf("%s and %s: %v", name, other, got)
			}
		}
		for _, l := range [][2][]impl.Span{{{a}, {b}}, {{a, b}, {a, a}}, {{a, b}, {b, b}}, {{a, b, a}, {b, a, b}}, {{a, b}, {a}}, {{a, b}, {b}}} {
			x, y := roomy(l[0]), roomy(l[1])
			check := watched(x, y)
			if impl.SameBag(x, y) || impl.SameBag(y, x) {
				t.Errorf("%s: %+v and %+v", name, x, y)
			}
			check(t, name)
		}
		if !impl.SameBag([]impl.Span{a, b, b}, []impl.Span{b, a, b}) {
			t.Errorf("%s: in another order", name)
		}
	}
}

func TestSameBagOfMany(t *testing.T) {
	a, b, c := thing(1, 1), thing(1, 2), thing(2, 1)
	if !impl.SameBag(nil, nil) || !impl.SameBag(nil, []impl.Span{}) || impl.SameBag([]impl.Span{a}, nil) || impl.SameBag(nil, []impl.Span{a}) {
		t.Error("of nothing")
	}
	if impl.SameBag([]impl.Span{{}}, nil) || !impl.SameBag([]impl.Span{{}}, []impl.Span{{}}) {
		t.Error("of the zero thing")
	}
	times := func(x, y, z int) []impl.Span {
		return slices.Concat(slices.Repeat([]impl.Span{a}, x), slices.Repeat([]impl.Span{b}, y), slices.Repeat([]impl.Span{c}, z))
	}
	for i := range 27 {
		for j := range 27 {
			x, y := times(i%3, i/3%3, i/9), times(j%3, j/3%3, j/9)
			slices.Reverse(y)
			if got := impl.SameBag(x, y); got != (i == j) {
				t.Errorf("%d and %d: %v", i, j, got)
			}
		}
	}
}

// Deeds of each Op and Code, that took place and did not, of each Stamp.
func deedsOfAll() []impl.Deed {
	out := []impl.Deed{}
	for op := 0; op <= 5; op++ {
		for code := -1; code <= 6; code++ {
			for stamp := -1; stamp <= 3; stamp++ {
				for _, lin := range []int{-1, 0, 3} {
					n := len(out)
					out = append(out, impl.Deed{Op: op, Code: code, Stamp: stamp, Lin: lin, S: thing(1+n, 1), Keep: n%2 == 0, Void: n%3 == 0, N: 1 + n%7, Took: n % 5, Forgot: n%4 - 1, Now: n % 11, Trace: n})
				}
			}
		}
	}
	return out
}

func TestAcceptedOfAllDeeds(t *testing.T) {
	l := roomy(deedsOfAll())
	check := watched(l)
	for stamp := -2; stamp <= 4; stamp++ {
		want := []impl.Span{}
		for _, lin := range []int{0, 3} {
			for _, d := range l {
				if d.Op == impl.DeOffer && (d.Code == 1 || d.Code == 2) && d.Stamp == stamp && d.Lin == lin {
					want = append(want, d.S)
				}
			}
		}
		got := impl.Accepted(l, stamp)
		apart(t, "Accepted", []any{got}, l)
		if !sameSpans(got, want) || len(want) != 4 && stamp >= -1 && stamp <= 3 {
			t.Errorf("of the Stamp %d: %v, not %v", stamp, got, want)
		}
	}
	check(t, "Accepted")
	if got := impl.Accepted(nil, 1); len(got) != 0 {
		t.Errorf("of nothing: %v", got)
	}
}

func TestAcceptedInTheOrderOfWhatTookPlace(t *testing.T) {
	l := []impl.Deed{}
	for i, lin := range []int{9, 4, -1, 4, 0, 7} {
		l = append(l, impl.Deed{Op: impl.DeOffer, Code: 1 + i%2, Stamp: 5, Lin: lin, S: thing(3, 1+i)})
	}
	ids := []int{}
	for _, s := range impl.Accepted(l, 5) {
		ids = append(ids, s.Id)
	}
	if !slices.Equal(ids, []int{5, 2, 4, 6, 1}) {
		t.Errorf("they are %v", ids)
	}
	if got := impl.Accepted([]impl.Deed{{Op: impl.DeOffer, Code: 1, Stamp: 5, S: thing(3, 1)}, {Op: impl.DeOffer, Code: 1, Stamp: 5, S: thing(3, 1)}}, 5); len(got) != 2 {
		t.Errorf("alike ones: %v", got)
	}
}

func TestKept(t *testing.T) {
	right := impl.Deed{Op: impl.DeJudge, Trace: 4, Stamp: 7, Keep: true, N: 2, Lin: 5, Res: -1}
	others := map[string]func(d *impl.Deed){
		"Void":            func(d *impl.Deed) { d.Void = true },
		"not Keep":        func(d *impl.Deed) { d.Keep = false },
		"not taken place": func(d *impl.Deed) { d.Lin = -1 },
		"another Stamp":   func(d *impl.Deed) { d.Stamp = 8 },
		"an offer":        func(d *impl.Deed) { d.Op = impl.DeOffer },
		"a drop":          func(d *impl.Deed) { d.Op = impl.DeDrop },
		"a shut":          func(d *impl.Deed) { d.Op = impl.DeShut },
		"another Op":      func(d *impl.Deed) { d.Op = 0 },
	}
	all := []impl.Deed{}
	for name, change := range others {
		d := right
		change(&d)
		all = append(all, d)
		if impl.Kept([]impl.Deed{d}, 7) {
			t.Errorf("%s: it is kept", name)
		}
	}
	if impl.Kept(all, 7) || impl.Kept(nil, 7) || impl.Kept(nil, 0) {
		t.Error("all of them, and none")
	}
	for i := range all {
		l := roomy(slices.Insert(slices.Clone(all), i, right))
		check := watched(l)
		if !impl.Kept(l, 7) || impl.Kept(l, 6) || impl.Kept(l, 0) || !impl.Kept(l, 8) {
			t.Errorf("among others, at %d", i)
		}
		check(t, "Kept")
	}
	for _, stamp := range []int{math.MinInt, -1, 0, math.MaxInt} {
		d := right
		d.Stamp, d.Lin, d.Trace, d.N = stamp, 0, 0, 0
		if !impl.Kept([]impl.Deed{d}, stamp) {
			t.Errorf("of the Stamp %d", stamp)
		}
	}
}

func TestSent(t *testing.T) {
	out := []impl.Item{item(7, 1, 1), item(8, 1, 2), item(7, 1, 3)}
	way := []impl.Item{item(7, 1, 4), item(6, 1, 5), item(7, 1, 1)}
	hand := []impl.Item{item(7, 1, 6), item(9, 1, 7)}
	more := []impl.Item{item(9, 1, 8), item(7, 1, 9)}
	cases := []struct {
		name string
		w    impl.World
		want []int
	}{
		{"nothing", impl.World{}, []int{}},
		{"a new world", impl.WorldNew(rightConf()), []int{}},
		{"went out", impl.World{Out: out}, []int{1, 3}},
		{"on its way", impl.World{Queue: way}, []int{4, 1}},
		{"in hand", impl.World{Tasks: []impl.Task{{Hand: hand}}}, []int{6}},
		{"in two hands", impl.World{Tasks: []impl.Task{{Hand: more}, {}, {Hand: hand}}}, []int{9, 6}},
		{"in the seventh hand", impl.World{Tasks: append(make([]impl.Task, 6), impl.Task{Hand: hand})}, []int{6}},
		{"all together", impl.World{Out: out, Queue: way, Tasks: []impl.Task{{}, {}, {}, {Op: impl.OpJudge, Hand: hand}, {Hand: more}}}, []int{1, 3, 4, 1, 6, 9}},
	}
	for _, c := range cases {
		w := roomy(c.w)
		check := watched(w)
		got := impl.Sent(w, 7)
		check(t, c.name)
		apart(t, c.name, []any{got}, w)
		ids := []int{}
		for _, s := range got {
			ids = append(ids, s.Id)
		}
		if !slices.Equal(ids, c.want) || len(impl.Sent(w, 5)) != 0 || len(impl.Sent(w, 0)) != 0 || len(impl.Sent(w, -1)) != 0 {
			t.Errorf("%s: %v", c.name, ids)
		}
	}
	wrong := impl.World{Out: []impl.Item{{Stamp: -3, S: rightSpan()}}}
	if got := impl.Sent(wrong, -3); !sameSpans(got, []impl.Span{rightSpan()}) {
		t.Errorf("of a Stamp below 0: %v", got)
	}
}

// A world in which the trails 1 and 3 are kept, all of their things sent: some went out, some are on their way, one is in hand; that of 2 is not.
func wholeWorld() impl.World {
	w := impl.World{Next: 5}
	for i, s := range []impl.Span{thing(1, 1), thing(1, 1), thing(1, 2), thing(2, 1), thing(3, 1)} {
		w.Deeds = append(w.Deeds, impl.Deed{Op: impl.DeOffer, S: s, Code: impl.CoHeld, Stamp: s.Trace, Inv: i, Lin: i, Res: i})
	}
	w.Deeds = append(w.Deeds, judgeDeed(1, 1, true, 0, 3, 0, 9), judgeDeed(2, 2, false, 0, 1, 0, 9), judgeDeed(3, 3, true, 0, 1, 0, 9))
	w.Deeds = append(w.Deeds, impl.Deed{Op: impl.DeOffer, S: thing(1, 9), Code: impl.CoLate, Stamp: 1, Inv: 20, Lin: 20, Res: 20}, impl.Deed{Op: impl.DeOffer, S: thing(2, 9), Code: impl.CoGone, Stamp: 2, Inv: 21, Lin: 21, Res: 21})
	w.Out = []impl.Item{item(1, 1, 2), item(1, 1, 1)}
	w.Queue = []impl.Item{item(3, 3, 1), item(1, 1, 9)}
	w.Tasks = []impl.Task{{}, {Hand: []impl.Item{item(1, 1, 1)}}}
	return w
}

func TestWholeByParts(t *testing.T) {
	cases := []worldCase{
		{"as it is", func(w *impl.World) {}, true},
		{"one that went out is gone", func(w *impl.World) { w.Out = w.Out[1:] }, false},
		{"one that went out is there twice", func(w *impl.World) { w.Out = append(w.Out, w.Out[0]) }, false},
		{"one is there twice, in the place of another", func(w *impl.World) { w.Out[1] = w.Out[0] }, false},
		{"one that went out is another", func(w *impl.World) { w.Out[0].S.End++ }, false},
		{"one that went out is said to be another", func(w *impl.World) { w.Out[0].S.Attrs[0].N++ }, false},
		{"one on its way is gone", func(w *impl.World) { w.Queue = w.Queue[:1] }, false},
		{"the only one of a trail is gone", func(w *impl.World) { w.Queue = w.Queue[1:] }, false},
		{"one in hand is gone", func(w *impl.World) { w.Tasks[1].Hand = nil }, false},
		{"one in hand goes out", func(w *impl.World) { w.Out = append(w.Out, w.Tasks[1].Hand[0]); w.Tasks = nil }, true},
		{"of a Stamp that is not kept", func(w *impl.World) { w.Out = append(w.Out, item(2, 2, 1)) }, false},
		{"of a Stamp that is not kept, on its way", func(w *impl.World) { w.Queue = append(w.Queue, item(2, 2, 1)) }, false},
		{"of a Stamp that is not kept, in hand", func(w *impl.World) { w.Tasks[0].Hand = []impl.Item{item(2, 2, 1)} }, false},
		{"of a Stamp of which nobody knows", func(w *impl.World) { w.Out = append(w.Out, item(4, 2, 1)) }, false},
		{"of the next Stamp", func(w *impl.World) { w.Out = append(w.Out, item(5, 2, 1)) }, true},
		{"of the Stamp 0", func(w *impl.World) { w.Out = append(w.Out, item(0, 2, 1)) }, true},
		{"of a Stamp below 0", func(w *impl.World) { w.Out = append(w.Out, item(-1, 2, 1)) }, true},
		{"the next one was kept, and nothing is sent", func(w *impl.World) {
			w.Deeds = append(w.Deeds, impl.Deed{Op: impl.DeOffer, S: thing(5, 1), Code: impl.CoHeld, Stamp: 5}, judgeDeed(5, 5, true, 0, 1, 0, 9))
		}, true},
		{"the Next is one more", func(w *impl.World) { w.Next, w.Out = 6, append(w.Out, item(5, 2, 1)) }, false},
		{"the Next is one less, up to the last that counts", func(w *impl.World) { w.Next, w.Queue = 4, w.Queue[1:] }, false},
		{"the Next is that of the one that is gone", func(w *impl.World) { w.Next, w.Queue = 3, w.Queue[1:] }, true},
		{"the judgment did not take place", func(w *impl.World) { w.Deeds[5].Lin, w.Deeds[5].Res = -1, -1 }, false},
		{"the judgment is Void", func(w *impl.World) { w.Deeds[5].Void = true }, false},
		{"the judgment is not kept", func(w *impl.World) { w.Deeds[5].Keep = false }, false},
		{"what is not kept would be, with nothing sent", func(w *impl.World) { w.Deeds[6].Keep = true }, false},
		{"what is not kept would be, and is sent", func(w *impl.World) { w.Deeds[6].Keep = true; w.Out = append(w.Out, item(2, 2, 1)) }, true},
		{"one more was taken in", func(w *impl.World) { w.Deeds[9].Code, w.Deeds[9].Stamp = impl.CoLate, 1 }, false},
		{"a late one was not", func(w *impl.World) { w.Deeds[8].Code = impl.CoGone }, false},
		{"kept, with nothing in it", func(w *impl.World) { w.Deeds = append(w.Deeds, judgeDeed(4, 4, true, 0, 0, 0, 9)) }, true},
		{"turned round", func(w *impl.World) { slices.Reverse(w.Out); slices.Reverse(w.Deeds); slices.Reverse(w.Queue) }, true},
		{"Next is 1", func(w *impl.World) { w.Next, w.Out = 1, nil }, true},
		{"Next is 0", func(w *impl.World) { w.Next, w.Out = 0, nil }, true},
		{"Next is the least", func(w *impl.World) { w.Next, w.Out = math.MinInt, nil }, true},
		{"Next is the greatest", func(w *impl.World) { w.Next = math.MaxInt }, true},
		{"Next is the greatest, and one is gone", func(w *impl.World) { w.Next, w.Out = math.MaxInt, nil }, false},
	}
	for _, c := range cases {
		w := wholeWorld()
		c.change(&w)
		w = roomy(w)
		check := watched(w)
		if got := impl.Whole(w); got != c.want {
			t.Errorf("%s: %v", c.name, got)
		}
		check(t, c.name)
	}
	if !impl.Whole(impl.World{}) {
		t.Error("a world of nothing")
	}
}

func TestWholeUpToTheLastStamp(t *testing.T) {
	for _, c := range []struct {
		next, stamp int
		want        bool
	}{
		{9999, 9998, false}, {9999, 9999, true}, {10000, 9999, false}, {10000, 10000, true}, {10001, 9999, false}, {10001, 10000, true},
		{10002, 10001, true}, {20000, 10000, true}, {20000, 9999, false}, {20000, 1, false}, {math.MaxInt, 10000, true}, {math.MaxInt, 9999, false},
	} {
		w := impl.World{Next: c.next, Out: []impl.Item{item(c.stamp, 1, 1)}}
		if got := impl.Whole(w); got != c.want {
			t.Errorf("Next %d, sent of the Stamp %d: %v", c.next, c.stamp, got)
		}
	}
}

func TestStampsOf(t *testing.T) {
	l := roomy(deedsOfAll())
	check := watched(l)
	got := impl.StampsOf(l)
	check(t, "StampsOf")
	apart(t, "StampsOf", []any{got}, l)
	if !slices.Equal(got, []int{1, 2, 3}) {
		t.Errorf("of all: %v", got)
	}
	held := func(stamp, lin int) impl.Deed {
		return impl.Deed{Op: impl.DeOffer, Code: impl.CoHeld, Stamp: stamp, Lin: lin}
	}
	cases := []struct {
		name string
		l    []impl.Deed
		want []int
	}{
		{"nothing", nil, []int{}},
		{"one", []impl.Deed{held(4, 0)}, []int{4}},
		{"one twice", []impl.Deed{held(4, 0), held(4, 2)}, []int{4}},
		{"one twice, with another between", []impl.Deed{held(4, 0), held(9, 1), held(4, 2), held(1, 8)}, []int{1, 4, 9}},
		{"not ascending", []impl.Deed{held(9, 0), held(7, 1), held(8, 2)}, []int{7, 8, 9}},
		{"0 and below", []impl.Deed{held(0, 0), held(-1, 1), held(math.MinInt, 2), held(1, 3)}, []int{1}},
		{"did not take place", []impl.Deed{held(5, -1), held(6, 0)}, []int{6}},
		{"great ones", []impl.Deed{held(math.MaxInt, 0), held(10000, 1)}, []int{10000, math.MaxInt}},
		{"late", []impl.Deed{{Op: impl.DeOffer, Code: impl.CoLate, Stamp: 3}}, []int{}},
		{"gone", []impl.Deed{{Op: impl.DeOffer, Code: impl.CoGone, Stamp: 3}}, []int{}},
		{"a judgment", []impl.Deed{{Op: impl.DeJudge, Code: impl.CoHeld, Stamp: 3}}, []int{}},
		{"a drop", []impl.Deed{{Op: impl.DeDrop, Code: impl.CoHeld, Stamp: 3}}, []int{}},
	}
	for _, c := range cases {
		if got := impl.StampsOf(c.l); !slices.Equal(got, c.want) {
			t.Errorf("%s: %v", c.name, got)
		}
	}
}

// Promise 23, step by step: of what is kept all is sent, of all others nothing.
func TestKeptTrailsAreWholeAfterEveryStep(t *testing.T) {
	kept, lost := 0, 0
	for round := range 40 {
		w := impl.WorldNew(someConf(round))
		if !impl.Whole(w) {
			t.Fatalf("round %d: a new world", round)
		}
		for i, e := range someEvents(uint32(round)+900, 150) {
			w, _ = impl.DoEvent(w, e)
			if !impl.Whole(w) {
				t.Fatalf("round %d, event %d: it is not whole", round, i)
			}
		}
		for _, stamp := range impl.StampsOf(w.Deeds) {
			sent := len(impl.Sent(w, stamp))
			if impl.Kept(w.Deeds, stamp) {
				kept++
				if sent == 0 || sent != len(impl.Accepted(w.Deeds, stamp)) {
					t.Errorf("round %d: of %d %d are sent", round, stamp, sent)
				}
			} else {
				lost++
				if sent > 0 {
					t.Errorf("round %d: of %d %d are sent, and it is not kept", round, stamp, sent)
				}
			}
		}
		for i := range w.Out {
			less, more := cloneOf(w), cloneOf(w)
			less.Out = slices.Delete(less.Out, i, i+1)
			more.Out = append(more.Out, more.Out[i])
			if impl.Whole(less) || impl.Whole(more) {
				t.Errorf("%s is whole", fmt.Sprintf("round %d, with %d taken away or doubled,", round, i))
			}
		}
	}
	if kept < 20 || lost < 20 {
		t.Errorf("%d were kept, %d were not", kept, lost)
	}
}
