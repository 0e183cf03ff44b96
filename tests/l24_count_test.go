package tests

import (
	"math"
	"slices"
	"testing"

	"loop.example/g00488/impl"
)

func TestCountOfByParts(t *testing.T) {
	took := func(d impl.Deed) impl.Deed {
		d.Lin, d.Res = 4, 4
		return d
	}
	open := func(d impl.Deed) impl.Deed {
		d.Lin, d.Res = -1, -1
		return d
	}
	deeds := func(l ...impl.Deed) impl.World { return impl.World{Deeds: l} }
	held, late := impl.Deed{Op: impl.DeOffer, Code: impl.CoHeld, N: 50}, impl.Deed{Op: impl.DeOffer, Code: impl.CoLate, N: 50}
	drop := impl.Deed{Op: impl.DeDrop, N: 3}
	judged := impl.Deed{Op: impl.DeJudge, N: 5}
	kept, void := judged, judged
	kept.Keep, void.Void = true, true
	both := void
	both.Keep = true
	cases := []struct {
		name string
		w    impl.World
		want impl.Count
	}{
		{"nothing", impl.World{}, impl.Count{}},
		{"a new world", impl.WorldNew(rightConf()), impl.Count{}},
		{"held", deeds(took(held)), impl.Count{Came: 1}},
		{"late", deeds(took(late)), impl.Count{Came: 1}},
		{"held and late", deeds(took(late), took(held), took(held)), impl.Count{Came: 3}},
		{"held and late, not taken place", deeds(open(late), open(held)), impl.Count{}},
		{"other codes", deeds(took(impl.Deed{Op: impl.DeOffer, Code: impl.CoGone}), took(impl.Deed{Op: impl.DeOffer, Code: impl.CoShut}), took(impl.Deed{Op: impl.DeOffer, Code: impl.CoBad}), took(impl.Deed{Op: impl.DeOffer})), impl.Count{}},
		{"a code of another Op", deeds(took(impl.Deed{Op: impl.DeShut, Code: impl.CoHeld}), took(impl.Deed{Code: impl.CoLate})), impl.Count{}},
		{"dropped", deeds(took(drop)), impl.Count{Dropped: 3}},
		{"dropped, not taken place", deeds(open(drop)), impl.Count{}},
		{"judged, not kept", deeds(took(judged)), impl.Count{Dropped: 5}},
		{"judged, not kept, not taken place", deeds(open(judged)), impl.Count{}},
		{"judged, kept", deeds(took(kept)), impl.Count{}},
		{"judged, kept, not taken place", deeds(open(kept)), impl.Count{}},
		{"void", deeds(took(void)), impl.Count{}},
		{"void and kept", deeds(took(both)), impl.Count{}},
		{"void, not taken place", deeds(open(void)), impl.Count{}},
		{"dropped and judged", deeds(took(drop), took(judged), took(drop), took(kept)), impl.Count{Dropped: 11}},
		{"dropped, and said to be void and kept", deeds(took(impl.Deed{Op: impl.DeDrop, N: 2, Void: true, Keep: true})), impl.Count{Dropped: 2}},
		{"shut, with a number", deeds(took(impl.Deed{Op: impl.DeShut, N: 2})), impl.Count{}},
		{"numbers below 0", deeds(took(impl.Deed{Op: impl.DeDrop, N: -4}), took(judged)), impl.Count{Dropped: 1}},
		{"great numbers", deeds(took(impl.Deed{Op: impl.DeDrop, N: impl.MaxNum}), took(drop)), impl.Count{Dropped: impl.MaxNum + 3}},
		{"went", impl.World{Out: []impl.Item{item(1, 1, 1), item(1, 1, 1), item(2, 1, 1)}}, impl.Count{Went: 3}},
		{"on their way", impl.World{Queue: []impl.Item{item(1, 1, 1), item(2, 1, 1)}}, impl.Count{Moving: 2}},
		{"in hand", impl.World{Tasks: []impl.Task{{}, {Op: impl.OpJudge, Hand: []impl.Item{item(1, 1, 1), item(1, 1, 2)}}}}, impl.Count{Moving: 2}},
		{"in two hands, and on their way", impl.World{Queue: []impl.Item{item(1, 1, 1)}, Tasks: []impl.Task{{Hand: []impl.Item{item(1, 1, 1)}}, {}, {}, {}, {}, {Hand: []impl.Item{item(1, 1, 2)}}}}, impl.Count{Moving: 3}},
		{"held", impl.World{St: stripesOf(3, fiveTrails()...)}, impl.Count{Held: len(spansOf(fiveTrails()))}},
		{"held in one stripe of many", impl.World{St: []impl.Stripe{{}, {}, {}, {L: []impl.Trail{trail(1, 1, 1, 1, 2), {}}}}}, impl.Count{Held: 2}},
		{"who offers has nothing in hand", impl.World{Tasks: []impl.Task{{Op: impl.OpOffer, S: thing(1, 1)}}}, impl.Count{}},
		{"one of each", fullWorld(), impl.Count{Came: 1, Went: 1, Moving: 3, Held: 4}},
	}
	for _, c := range cases {
		w := roomy(c.w)
		check := watched(w)
		if got := impl.CountOf(w); got != c.want {
			t.Errorf("%s: %+v, not %+v", c.name, got, c.want)
		}
		check(t, c.name)
	}
}

func spansOf(l []impl.Trail) []impl.Span {
	out := []impl.Span{}
	for _, x := range l {
		out = append(out, x.Spans...)
	}
	return out
}

func TestBalanced(t *testing.T) {
	rights := []impl.Count{
		{}, {Came: 1, Went: 1}, {Came: 1, Moving: 1}, {Came: 1, Held: 1}, {Came: 1, Dropped: 1}, {Came: 10, Went: 1, Moving: 2, Held: 3, Dropped: 4},
		{Came: -1, Went: -1}, {Came: 0, Went: -3, Dropped: 3}, {Came: -10, Went: -1, Moving: -2, Held: -3, Dropped: -4}, {Came: math.MaxInt, Held: math.MaxInt}, {Came: math.MinInt, Went: math.MinInt},
		{Came: impl.MaxNum + 5, Went: impl.MaxNum, Moving: 5}, {Came: -1, Held: math.MaxInt, Dropped: math.MinInt},
	}
	for _, right := range rights {
		if !impl.Balanced(right) {
			t.Errorf("%+v is not balanced", right)
		}
		for i := range 5 {
			for _, by := range []int{-1, 1} {
				n := right
				*[]*int{&n.Came, &n.Went, &n.Moving, &n.Held, &n.Dropped}[i] += by
				if impl.Balanced(n) {
					t.Errorf("%+v is balanced", n)
				}
			}
		}
	}
}

func TestCodes(t *testing.T) {
	l := roomy(deedsOfAll())
	check := watched(l)
	for code := -2; code <= 7; code++ {
		want := 10
		if code < -1 || code > 6 {
			want = 0
		}
		if got := impl.Codes(l, code); got != want {
			t.Errorf("of the Code %d: %d", code, got)
		}
	}
	check(t, "Codes")
	if impl.Codes(nil, impl.CoHeld) != 0 || impl.Codes(nil, 0) != 0 {
		t.Error("of nothing")
	}
	d := impl.Deed{Op: impl.DeOffer, Code: impl.CoLate}
	if impl.Codes([]impl.Deed{d, d, d}, impl.CoLate) != 3 || impl.Codes([]impl.Deed{d}, impl.CoHeld) != 0 {
		t.Error("of one Code")
	}
	d.Lin = -1
	if impl.Codes([]impl.Deed{d}, impl.CoLate) != 0 {
		t.Error("it did not take place")
	}
	for _, op := range []int{-1, 0, impl.DeJudge, impl.DeDrop, impl.DeShut, 5} {
		if impl.Codes([]impl.Deed{{Op: op, Code: impl.CoLate}}, impl.CoLate) != 0 {
			t.Errorf("of the Op %d", op)
		}
	}
}

func TestDroppedFor(t *testing.T) {
	for op := -1; op <= 6; op++ {
		for _, lin := range []int{-1, 0, 5} {
			d := impl.Deed{Op: op, Lin: lin, N: 4, Keep: lin == 0}
			want := 0
			if op == impl.DeDrop {
				want = 1
			}
			if got := impl.DroppedFor([]impl.Deed{d}); got != want {
				t.Errorf("of the Op %d at %d: %d", op, lin, got)
			}
			if got := impl.DroppedFor([]impl.Deed{d, d, {Op: impl.DeShut}, d}); got != 3*want {
				t.Errorf("of the Op %d at %d, three of them: %d", op, lin, got)
			}
		}
	}
	if impl.DroppedFor(nil) != 0 {
		t.Error("of nothing")
	}
}

func TestForgotOf(t *testing.T) {
	forgot := func(op, n, lin int) impl.Deed { return impl.Deed{Op: op, Forgot: n, Lin: lin} }
	cases := []struct {
		name string
		l    []impl.Deed
		want []int
	}{
		{"nothing", nil, []int{}},
		{"one", []impl.Deed{forgot(impl.DeDrop, 4, 2)}, []int{4}},
		{"0", []impl.Deed{forgot(impl.DeDrop, 0, 2)}, []int{}},
		{"below 0", []impl.Deed{forgot(impl.DeDrop, -1, 2), forgot(impl.DeDrop, math.MinInt, 3)}, []int{}},
		{"not taken place", []impl.Deed{forgot(impl.DeJudge, 4, -1)}, []int{}},
		{"of each Op", []impl.Deed{forgot(impl.DeOffer, 1, 0), forgot(impl.DeJudge, 2, 1), forgot(impl.DeDrop, 3, 2), forgot(impl.DeShut, 4, 3), forgot(0, 5, 4), forgot(9, 6, 5)}, []int{1, 2, 3, 4, 5, 6}},
		{"in Order", []impl.Deed{forgot(impl.DeDrop, 4, 9), forgot(impl.DeJudge, 3, 2), forgot(impl.DeDrop, 8, -1), forgot(impl.DeDrop, 7, 2), forgot(impl.DeDrop, 0, 3), forgot(impl.DeJudge, 6, 0)}, []int{6, 3, 7, 4}},
		{"one twice", []impl.Deed{forgot(impl.DeDrop, 4, 5), forgot(impl.DeDrop, 4, 1)}, []int{4, 4}},
	}
	for _, c := range cases {
		l := roomy(c.l)
		check := watched(l)
		got := impl.ForgotOf(l)
		check(t, c.name)
		apart(t, c.name, []any{got}, l)
		if !slices.Equal(got, c.want) {
			t.Errorf("%s: %v", c.name, got)
		}
	}
}

// Promise 24, step by step, with what came, went, moves, is held and was dropped all seen.
func TestWhatCameIsBalancedAfterEveryStep(t *testing.T) {
	seen := impl.Count{}
	for round := range 40 {
		w := impl.WorldNew(someConf(round))
		for i, e := range someEvents(uint32(round)+1700, 150) {
			w, _ = impl.DoEvent(w, e)
			n := impl.CountOf(w)
			if !impl.Balanced(n) {
				t.Fatalf("round %d, event %d: %+v is not balanced", round, i, n)
			}
			if n.Came != impl.Codes(w.Deeds, impl.CoHeld)+impl.Codes(w.Deeds, impl.CoLate) || n.Held != len(spansOf(impl.OpenTrails(w.St))) {
				t.Fatalf("round %d, event %d: %+v", round, i, n)
			}
			seen = impl.Count{Came: seen.Came + n.Came, Went: seen.Went + n.Went, Moving: seen.Moving + n.Moving, Held: seen.Held + n.Held, Dropped: seen.Dropped + n.Dropped}
		}
	}
	if min(seen.Came, seen.Went, seen.Moving, seen.Held, seen.Dropped) < 50 {
		t.Errorf("too little came about: %+v", seen)
	}
}
