package tests

import (
	"fmt"
	"math"
	"slices"
	"testing"

	"loop.example/g00488/impl"
)

func judgedAt(now, took, n int, keep bool) impl.Deed {
	return impl.Deed{Op: impl.DeJudge, Trace: 1, Stamp: 1, Keep: keep, Took: took, N: n, Now: now, Lin: 5, Res: 6}
}

func TestTookInAndKeptIn(t *testing.T) {
	one := []impl.Deed{judgedAt(7, 3, 5, true)}
	with := func(change func(d *impl.Deed)) []impl.Deed {
		l := slices.Clone(one)
		change(&l[0])
		return l
	}
	cases := []struct {
		name       string
		l          []impl.Deed
		from, to   int
		took, kept int
	}{
		{"nothing", nil, 0, 9, 0, 0},
		{"within", one, 6, 8, 3, 5},
		{"at from", one, 7, 8, 3, 5},
		{"at to", one, 6, 7, 3, 5},
		{"at both", one, 7, 7, 3, 5},
		{"one below from", one, 8, 9, 0, 0},
		{"one above to", one, 5, 6, 0, 0},
		{"from above to", one, 8, 6, 0, 0},
		{"from just above to", one, 7, 6, 0, 0},
		{"from one above, to at it", one, 8, 7, 0, 0},
		{"all of time", one, math.MinInt, math.MaxInt, 3, 5},
		{"all of time, turned round", one, math.MaxInt, math.MinInt, 0, 0},
		{"not taken place", with(func(d *impl.Deed) { d.Lin = -1 }), 0, 9, 0, 0},
		{"taken place at 0", with(func(d *impl.Deed) { d.Lin = 0 }), 0, 9, 3, 5},
		{"not done", with(func(d *impl.Deed) { d.Res = -1 }), 0, 9, 3, 5},
		{"not Keep", with(func(d *impl.Deed) { d.Keep = false }), 0, 9, 3, 0},
		{"an offer", with(func(d *impl.Deed) { d.Op = impl.DeOffer }), 0, 9, 0, 0},
		{"a drop", with(func(d *impl.Deed) { d.Op = impl.DeDrop }), 0, 9, 0, 0},
		{"a shut", with(func(d *impl.Deed) { d.Op = impl.DeShut }), 0, 9, 0, 0},
		{"another Op", with(func(d *impl.Deed) { d.Op = 0 }), 0, 9, 0, 0},
		{"Void, but with numbers", with(func(d *impl.Deed) { d.Void = true }), 0, 9, 3, 5},
		{"numbers below 0", []impl.Deed{judgedAt(7, -3, -5, true), judgedAt(7, 1, 1, true)}, 0, 9, -2, -4},
		{"at a time below 0", []impl.Deed{judgedAt(-7, 3, 5, true)}, -7, -7, 3, 5},
		{"many", []impl.Deed{judgedAt(4, 1, 10, true), judgedAt(5, 2, 20, false), judgedAt(6, 4, 40, true), judgedAt(7, 8, 80, true)}, 5, 6, 6, 40},
		{"alike ones", slices.Repeat(one, 3), 7, 7, 9, 15},
	}
	for _, c := range cases {
		l := roomy(c.l)
		check := watched(l)
		took, kept := impl.TookIn(l, c.from, c.to), impl.KeptIn(l, c.from, c.to)
		check(t, c.name)
		if took != c.took || kept != c.kept {
			t.Errorf("%s: %d and %d", c.name, took, kept)
		}
	}
}

func TestSteady(t *testing.T) {
	w := func(rate, burst, took, now int) impl.World {
		return impl.World{B: bucket(rate, burst, 0, 0), Deeds: []impl.Deed{judgedAt(now, took, 1, true)}}
	}
	cases := []struct {
		name     string
		w        impl.World
		from, to int
		want     bool
	}{
		{"nothing", impl.World{}, 0, 0, true},
		{"nothing, from below 0", impl.World{}, -1, 0, false},
		{"nothing, from far below 0", impl.World{}, math.MinInt, math.MaxInt, false},
		{"nothing, to below from", impl.World{}, 3, 2, false},
		{"nothing, to far below from", impl.World{}, 3, math.MinInt, false},
		{"nothing, to from", impl.World{}, 3, 3, true},
		{"nothing, at the end", impl.World{}, math.MaxInt, math.MaxInt, true},
		{"nothing, all of time", impl.World{}, 0, math.MaxInt, true},
		{"just the Burst", w(2, 5, 5, 4), 4, 4, true},
		{"one more", w(2, 5, 6, 4), 4, 4, false},
		{"just as much, 3 ticks", w(2, 5, 11, 4), 3, 6, true},
		{"one more, 3 ticks", w(2, 5, 12, 4), 3, 6, false},
		{"much more, at another time", w(2, 5, 99, 7), 3, 6, true},
		{"much more, at another time, ahead", w(2, 5, 99, 2), 3, 6, true},
		{"from 0", w(1, 0, 4, 4), 0, 4, true},
		{"from 0, one more", w(1, 0, 5, 4), 0, 4, false},
		{"from below 0", w(1, 0, 0, 4), -1, 4, false},
		{"no Rate", w(0, 3, 4, 4), 0, 99, false},
		{"all of time", w(1, 0, impl.MaxNum, 4), 0, math.MaxInt, true},
		{"all of time, one more", w(1, 0, impl.MaxNum+1, 4), 0, math.MaxInt, false},
		{"tokens are not looked at", impl.World{B: bucket(1, 3, 900, 70), Deeds: []impl.Deed{judgedAt(4, 4, 1, true)}}, 4, 4, false},
		{"the conf is not looked at", impl.World{C: rightConf(), Deeds: []impl.Deed{judgedAt(4, 1, 1, true)}}, 4, 4, false},
	}
	for _, c := range cases {
		x := roomy(c.w)
		check := watched(x)
		if got := impl.Steady(x, c.from, c.to); got != c.want {
			t.Errorf("%s: %v", c.name, got)
		}
		check(t, c.name)
	}
}

// Of a wait of 3: the trail of the Stamp 1 is taken in at 4, and judged at 6, which is too early by one.
func earlyWorld() impl.World {
	return impl.World{C: impl.Conf{Wait: 3}, Deeds: []impl.Deed{
		{Op: impl.DeOffer, Code: impl.CoHeld, Stamp: 1, Now: 4, Inv: 10, Lin: 11, Res: 11},
		{Op: impl.DeJudge, Stamp: 1, Now: 6, Inv: 20, Lin: 21, Res: 22},
	}}
}

func TestEarly(t *testing.T) {
	add := func(l ...impl.Deed) func(w *impl.World) {
		return func(w *impl.World) { w.Deeds = append(w.Deeds, l...) }
	}
	shut := func(lin int) impl.Deed { return impl.Deed{Op: impl.DeShut, Inv: 0, Lin: lin, Res: lin} }
	held := func(stamp, now, lin int) impl.Deed {
		return impl.Deed{Op: impl.DeOffer, Code: impl.CoHeld, Stamp: stamp, Now: now, Lin: lin}
	}
	cases := []worldCase{
		{"one below the Deadline", func(w *impl.World) {}, true},
		{"at the Deadline", func(w *impl.World) { w.Deeds[1].Now = 7 }, false},
		{"later", func(w *impl.World) { w.Deeds[1].Now = 8 }, false},
		{"kept", func(w *impl.World) { w.Deeds[1].Keep = true }, true},
		{"a Wait that is one less", func(w *impl.World) { w.C.Wait = 2 }, false},
		{"Void", func(w *impl.World) { w.Deeds[1].Void = true }, false},
		{"not taken place", func(w *impl.World) { w.Deeds[1].Lin, w.Deeds[1].Res = -1, -1 }, false},
		{"not done", func(w *impl.World) { w.Deeds[1].Res = -1 }, true},
		{"a drop", func(w *impl.World) { w.Deeds[1].Op = impl.DeDrop }, false},
		{"shut ahead of it", add(shut(20)), false},
		{"shut ahead of all", add(shut(0)), false},
		{"shut behind it", add(shut(22)), true},
		{"shut, not taken place", add(shut(-1)), true},
		{"shut, not taken place, first", func(w *impl.World) { w.Deeds = slices.Insert(w.Deeds, 0, shut(-1)) }, true},
		{"shut twice, ahead and behind", add(shut(22), shut(15)), false},
		{"shut behind it, but standing first", func(w *impl.World) { w.Deeds = slices.Insert(w.Deeds, 0, shut(22)) }, true},
		{"shut at the same step, standing behind", add(shut(21)), true},
		{"shut at the same step, standing ahead", func(w *impl.World) { w.Deeds = slices.Insert(w.Deeds, 0, shut(21)) }, false},
		{"nothing of this Stamp was taken in", func(w *impl.World) { w.Deeds[0].Stamp = 2 }, false},
		{"nothing was taken in", func(w *impl.World) { w.Deeds = w.Deeds[1:] }, false},
		{"nothing took place of what was offered", func(w *impl.World) { w.Deeds[0].Lin = -1 }, false},
		{"it came late", func(w *impl.World) { w.Deeds[0].Code = impl.CoLate }, false},
		{"it is no offer", func(w *impl.World) { w.Deeds[0].Op = impl.DeDrop }, false},
		{"an earlier one was taken in first", add(held(1, 3, 5)), false},
		{"an earlier one was taken in later", add(held(1, 3, 15)), true},
		{"a later one was taken in first", func(w *impl.World) { w.Deeds[1].Now = 7; w.Deeds = append(w.Deeds, held(1, 5, 5)) }, true},
		{"a later one was taken in later", func(w *impl.World) { w.Deeds[1].Now = 7; w.Deeds = append(w.Deeds, held(1, 5, 15)) }, false},
		{"at the same step the one that stands first counts", func(w *impl.World) { w.Deeds[1].Now = 7; w.Deeds = append(w.Deeds, held(1, 5, 11)) }, false},
		{"a later one of another Stamp was taken in first", func(w *impl.World) { w.Deeds[1].Now = 7; w.Deeds = append(w.Deeds, held(2, 5, 5)) }, false},
		{"taken in behind the judgment", func(w *impl.World) { w.Deeds[0].Lin, w.Deeds[0].Res = 30, 30 }, true},
		{"one in time is ahead", add(held(2, 0, 1), impl.Deed{Op: impl.DeJudge, Stamp: 2, Now: 9, Lin: 2}), true},
		{"one Void is ahead", add(impl.Deed{Op: impl.DeJudge, Void: true, Stamp: 9, Lin: 2}), true},
		{"one of a Stamp of which nothing was taken in is ahead", add(impl.Deed{Op: impl.DeJudge, Stamp: 9, Lin: 2}), true},
		{"the second one is early, the first one in time", func(w *impl.World) {
			w.Deeds[1].Now = 7
			w.Deeds = append(w.Deeds, held(2, 5, 12), impl.Deed{Op: impl.DeJudge, Stamp: 2, Now: 7, Lin: 40})
		}, true},
		{"the second one is early, but shut by then", func(w *impl.World) {
			w.Deeds[1].Now = 7
			w.Deeds = append(w.Deeds, held(2, 5, 12), impl.Deed{Op: impl.DeJudge, Stamp: 2, Now: 7, Lin: 40}, shut(30))
		}, false},
		{"two judgments of one Stamp, the second one is early", func(w *impl.World) {
			w.Deeds[1].Now = 7
			w.Deeds = append(w.Deeds, impl.Deed{Op: impl.DeJudge, Stamp: 1, Now: 6, Lin: 40})
		}, true},
		{"the Stamp 0", func(w *impl.World) { w.Deeds[0].Stamp, w.Deeds[1].Stamp = 0, 0 }, true},
		{"at the end of time", func(w *impl.World) { w.Deeds[0].Now, w.Deeds[1].Now = impl.MaxNum, impl.MaxNum }, false},
		{"near the end of time", func(w *impl.World) { w.Deeds[0].Now, w.Deeds[1].Now = impl.MaxNum-1, impl.MaxNum-1 }, true},
		{"at times below 0", func(w *impl.World) { w.Deeds[0].Now, w.Deeds[1].Now = -50, 3 }, false},
		{"judged at a time below 0", func(w *impl.World) { w.Deeds[0].Now, w.Deeds[1].Now = -50, -1 }, true},
		{"no deeds", func(w *impl.World) { w.Deeds = nil }, false},
		{"a world of nothing", func(w *impl.World) { *w = impl.World{} }, false},
	}
	for _, c := range cases {
		w := earlyWorld()
		c.change(&w)
		w = roomy(w)
		check := watched(w)
		if got := impl.Early(w); got != c.want {
			t.Errorf("%s: %v", c.name, got)
		}
		check(t, c.name)
	}
}

func TestVerdicts(t *testing.T) {
	deed := func(op, trace, lin int, keep, void bool) impl.Deed {
		return impl.Deed{Op: op, Trace: trace, Stamp: 100 + trace, Keep: keep, Void: void, Lin: lin}
	}
	told := func(trace int, keep bool) impl.Verdict {
		return impl.Verdict{Trace: trace, Stamp: 100 + trace, Keep: keep}
	}
	cases := []struct {
		name string
		l    []impl.Deed
		want []impl.Verdict
	}{
		{"nothing", nil, nil},
		{"kept", []impl.Deed{deed(impl.DeJudge, 1, 0, true, false)}, []impl.Verdict{told(1, true)}},
		{"not kept", []impl.Deed{deed(impl.DeJudge, 1, 0, false, false)}, []impl.Verdict{told(1, false)}},
		{"Void", []impl.Deed{deed(impl.DeJudge, 1, 0, false, true), deed(impl.DeJudge, 2, 0, true, true)}, nil},
		{"not taken place", []impl.Deed{deed(impl.DeJudge, 1, -1, true, false), deed(impl.DeDrop, 2, -1, false, false)}, nil},
		{"dropped", []impl.Deed{deed(impl.DeDrop, 1, 0, false, false)}, []impl.Verdict{told(1, false)}},
		{"dropped, said to be Void", []impl.Deed{deed(impl.DeDrop, 1, 0, false, true)}, []impl.Verdict{told(1, false)}},
		{"other Ops", []impl.Deed{deed(impl.DeOffer, 1, 0, true, false), deed(impl.DeShut, 2, 0, true, false), deed(0, 3, 0, true, false), deed(5, 4, 0, true, false)}, nil},
		{"in Order", []impl.Deed{deed(impl.DeJudge, 1, 9, true, false), deed(impl.DeDrop, 2, 4, false, false), deed(impl.DeJudge, 3, 4, true, false), deed(impl.DeJudge, 4, 0, false, false), deed(impl.DeJudge, 5, -1, true, false)}, []impl.Verdict{told(4, false), told(2, false), told(3, true), told(1, true)}},
		{"one trail twice", []impl.Deed{deed(impl.DeJudge, 1, 3, true, false), deed(impl.DeDrop, 1, 1, false, false)}, []impl.Verdict{told(1, false), told(1, true)}},
		{"a wrong one", []impl.Deed{{Op: impl.DeJudge, Trace: -4, Stamp: -5, Keep: true}}, []impl.Verdict{{Trace: -4, Stamp: -5, Keep: true}}},
	}
	for _, c := range cases {
		l := roomy(c.l)
		check := watched(l)
		got := impl.Verdicts(l)
		check(t, c.name)
		apart(t, c.name, []any{got}, l)
		if !slices.Equal(got, c.want) {
			t.Errorf("%s: %v", c.name, got)
		}
	}
}

// What came of new worlds by many plays, some of them shut.
func manyPlays(many int, seed uint32, conf func(n int) impl.Conf, look func(name string, w impl.World)) {
	for round := range many {
		l := someEvents(seed+uint32(round)*17, impl.MaxPlay)
		if round%3 == 0 {
			l[round*7%impl.MaxPlay] = shutEvent
		}
		look(fmt.Sprintf("round %d", round), impl.Play(impl.WorldNew(conf(round)), l))
	}
}

// Set-ups by which many are kept for tokens, of which there are few.
func tokenConf(n int) impl.Conf {
	c := someConf(n)
	c.Rule = []impl.Pol{ratePol, orPol(ratePol, errPol), orPol(errPol, ratePol), andPol(allPol, ratePol), ratePol}[n%5]
	c.Wait, c.Burst, c.Rate, c.Queue = 1+n%3, n%4, n/4%3, 3
	return c
}

// Promise 22.
func TestWhateverComesCouldHaveBeenDoneOneByOne(t *testing.T) {
	shut, open := 0, 0
	manyPlays(200, 3000, someConf, func(name string, w impl.World) {
		if !impl.Linear(w) {
			t.Errorf("%s: it is not Linear", name)
		}
		if m, n := impl.Replayed(w); n != len(impl.Order(w.Deeds)) || !impl.Agrees(w, m) {
			t.Errorf("%s: %d are Replayed", name, n)
		}
		if w.Shut {
			shut++
		}
		if len(impl.Order(w.Deeds)) < len(w.Deeds) {
			open++
		}
	})
	if shut < 40 || open < 40 {
		t.Errorf("%d were shut, in %d something was not done", shut, open)
	}
}

// Promise 24.
func TestWhateverComesIsBalanced(t *testing.T) {
	manyPlays(200, 4000, someConf, func(name string, w impl.World) {
		if n := impl.CountOf(w); !impl.Balanced(n) {
			t.Errorf("%s: %+v", name, n)
		}
	})
}

// Promise 25, in whatever time; and what is remembered is the last of what was said.
func TestWhateverComesIsSteadyAndNotEarly(t *testing.T) {
	took, full, early := 0, 0, 0
	manyPlays(150, 5000, tokenConf, func(name string, w impl.World) {
		now := impl.TimeOf(w)
		for from := range now + 1 {
			for to := from; to <= now; to++ {
				if !impl.Steady(w, from, to) {
					t.Fatalf("%s: from %d to %d", name, from, to)
				}
				if n := impl.TookIn(w.Deeds, from, to); n > 0 && n == impl.MostIn(w.B, to-from) {
					full++
				}
			}
		}
		took += impl.TookIn(w.Deeds, 0, now)
		if impl.Early(w) {
			t.Errorf("%s: it is Early", name)
		}
		if n := impl.KeptIn(w.Deeds, 0, now); n < impl.TookIn(w.Deeds, 0, now) || n > impl.CountOf(w).Came {
			t.Errorf("%s: %d are kept", name, n)
		}
		told := impl.Verdicts(w.Deeds)
		for i := range w.Cache {
			if last := told[len(told)-1-i]; w.Cache[len(w.Cache)-1-i] != last {
				t.Errorf("%s: %+v was said last, and is not remembered: %+v", name, last, w.Cache)
			}
		}
		if forgot := len(impl.ForgotOf(w.Deeds)); forgot+len(w.Cache) > len(told) {
			t.Errorf("%s: %d are forgotten", name, forgot)
		}
		w.C.Wait = 50
		if impl.Early(w) {
			early++
		}
	})
	if took < 100 || full < 20 || early < 20 {
		t.Errorf("%d tokens were taken, %d times all that there may be, %d would have been early", took, full, early)
	}
}
