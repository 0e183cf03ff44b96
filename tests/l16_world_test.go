package tests

import (
	"math"
	"slices"
	"testing"

	"loop.example/g00488/impl"
)

// A right world in which there is something everywhere. Of three stripes, 1 and 3 belong to the first one, 11 to the second one, 2 to the third one. Task 0 holds the first one, 1 the second one, 3 the third one and the rule; 4 has something in hand. The trail 1 has a Timer, 11 is Due, 2 is being judged.
func fullWorld() impl.World {
	w := impl.World{C: rightConf(), Time: 40, RuleHeld: 3, B: bucket(1, 3, 2, 9), Used: 68, Next: 12}
	w.C.Stripes = 3
	w.St = stripesOf(3, trail(1, 5, 8, 1), trail(2, 7, 9, 1), trail(11, 6, 9, 1, 2))
	w.St[0].Held, w.St[1].Held, w.St[2].Held = 0, 1, 3
	w.Cache = []impl.Verdict{{Trace: 30, Stamp: 2, Keep: true}, {Trace: 31, Stamp: 3}}
	w.W = wheelAt(10, impl.Timer{Id: 5, Trace: 1, At: 11}, impl.Timer{Id: 8, Trace: 50, At: 30}, impl.Timer{Id: 9, Trace: 51, At: 200})
	w.Due = []impl.Timer{{Id: 6, Trace: 11, At: 9}, {Id: 4, Trace: 60, At: 10}}
	w.Queue = []impl.Item{item(2, 30, 1), item(2, 30, 2)}
	w.Out = []impl.Item{item(1, 33, 1)}
	w.Tasks = []impl.Task{
		{Op: impl.OpOffer, Pc: 1, S: thing(1, 9)},
		{Op: impl.OpOffer, Pc: 3, S: thing(3, 9), Trace: 11, Stamp: 6, H: 1},
		{},
		{Op: impl.OpJudge, Pc: 2, Trace: 2, Stamp: 7, H: 3},
		{Op: impl.OpJudge, Pc: 3, Trace: 70, Stamp: 10, Hand: []impl.Item{item(10, 70, 1)}, H: 2},
	}
	w.Deeds = []impl.Deed{
		{Op: impl.DeOffer, Task: 0, S: thing(1, 9), Now: 8, Inv: 10, Lin: -1, Res: -1},
		{Op: impl.DeOffer, Task: 1, S: thing(3, 9), Now: 8, Inv: 11, Lin: -1, Res: -1},
		{Op: impl.DeJudge, Task: 4, Trace: 70, Stamp: 10, Keep: true, N: 2, Now: 9, Inv: 20, Lin: 30, Res: -1},
		{Op: impl.DeJudge, Task: 3, Trace: 2, Stamp: 7, Now: 10, Inv: 31, Lin: -1, Res: -1},
		{Op: impl.DeOffer, Task: 2, S: thing(11, 2), Stamp: 6, Code: impl.CoHeld, Now: 10, Inv: 35, Lin: 37, Res: 37},
	}
	return w
}

// What is not as told when just this is done to a right world, or what is still right then.
type worldCase struct {
	name   string
	change func(w *impl.World)
	want   bool
}

func checkWorlds(t *testing.T, right func() impl.World, cases []worldCase) {
	t.Helper()
	if !impl.WorldOk(right()) {
		t.Fatalf("it is not right as it is: %+v", right())
	}
	for _, c := range cases {
		w := right()
		c.change(&w)
		if got := impl.WorldOk(w); got != c.want {
			t.Errorf("%s: WorldOk is %v", c.name, got)
		}
	}
}

// Promise 16.
func TestANewWorldIsRight(t *testing.T) {
	confs := []impl.Conf{rightConf(), {Stripes: 1, Wait: 1, Budget: 1, Cache: 1, Queue: 1, Rule: allPol}, {Stripes: 3, Wait: 50, Budget: 190, Cache: 6, Queue: 4, Rate: 99, Burst: 999, Rule: textPol("k", "a b")}}
	for _, p := range rightPols() {
		c := rightConf()
		c.Rule = p
		confs = append(confs, c)
	}
	for _, c := range confs {
		want := impl.World{C: c, RuleHeld: -1, B: bucket(c.Rate, c.Burst, c.Burst, 0), W: wheelAt(0), Tasks: make([]impl.Task, 5), Next: 1, St: stripesOf(c.Stripes)}
		given := roomy(c)
		check := watched(given)
		got := impl.WorldNew(given)
		check(t, "WorldNew")
		apart(t, "WorldNew", []any{got}, given)
		if d := differs(got, want); d != "" {
			t.Errorf("WorldNew of %+v: %s", c, d)
		}
		if !impl.WorldOk(got) || impl.Busy(got) != 0 || impl.TimeOf(got) != 0 {
			t.Errorf("WorldNew of %+v is not right: %+v", c, got)
		}
	}
}

func TestThereIsNoWorldOfAWrongConf(t *testing.T) {
	for name := range confNumbers(new(impl.Conf)) {
		for _, off := range []int{-1, 1} {
			c := rightConf()
			x := confNumbers(&c)[name]
			*x.n = x.least - 1
			if off > 0 {
				*x.n = x.most + 1
			}
			if got := impl.WorldNew(c); differs(got, impl.World{}) != "" || impl.WorldOk(got) {
				t.Errorf("%s is %d: %+v", name, *x.n, got)
			}
			w := fullWorld()
			*confNumbers(&w.C)[name].n = *x.n
			if impl.WorldOk(w) {
				t.Errorf("%s is %d: WorldOk", name, *x.n)
			}
		}
	}
	for _, p := range []impl.Pol{{}, {Kind: 10}, nested(errPol, 5), andPol(), longPol(-1)} {
		c := rightConf()
		c.Rule = p
		if got := impl.WorldNew(c); differs(got, impl.World{}) != "" {
			t.Errorf("rule %+v: %+v", p, got)
		}
		w := fullWorld()
		w.C.Rule = p
		if impl.WorldOk(w) {
			t.Errorf("rule %+v: WorldOk", p)
		}
	}
	if impl.WorldOk(impl.World{}) {
		t.Error("a world of nothing is right")
	}
}

func TestWorldOkByNumbers(t *testing.T) {
	numbers := []struct {
		name   string
		number func(w *impl.World) *int
		wants  map[int]bool
	}{
		{"Time", func(w *impl.World) *int { return &w.Time }, map[int]bool{math.MinInt: false, -1: false, 0: true, 1: true, math.MaxInt: true}},
		{"Next", func(w *impl.World) *int { return &w.Next }, map[int]bool{math.MinInt: false, -1: false, 0: false, 1: true, 2: true, math.MaxInt: true}},
		{"Now", func(w *impl.World) *int { return &w.W.Now }, map[int]bool{math.MinInt: false, -1: false, 0: true, 1: true, 99999: true, 100000: true, 100001: false, impl.MaxNum: false, math.MaxInt: false}},
		{"RuleHeld", func(w *impl.World) *int { return &w.RuleHeld }, map[int]bool{math.MinInt: false, -2: false, -1: true, 0: false, 3: false, 4: false, 5: false, math.MaxInt: false}},
		{"Held", func(w *impl.World) *int { return &w.St[1].Held }, map[int]bool{math.MinInt: false, -2: false, -1: true, 0: false, 4: false, 5: false, math.MaxInt: false}},
		{"Used", func(w *impl.World) *int { return &w.Used }, map[int]bool{-1: false, 0: true, 1: false, 90: false, math.MaxInt: false}},
		{"Rate", func(w *impl.World) *int { return &w.B.Rate }, map[int]bool{-1: false, 0: false, 1: true, 2: false, 100: false}},
		{"Burst", func(w *impl.World) *int { return &w.B.Burst }, map[int]bool{-1: false, 2: false, 3: true, 4: false, 1000: false}},
		{"Tokens", func(w *impl.World) *int { return &w.B.Tokens }, map[int]bool{-1: false, 0: true, 3: true, 4: false}},
		{"At", func(w *impl.World) *int { return &w.B.At }, map[int]bool{-1: false, 0: true, 1: false, impl.MaxNum: false}},
	}
	for _, x := range numbers {
		for n, want := range x.wants {
			w := impl.WorldNew(rightConf())
			*x.number(&w) = n
			if got := impl.WorldOk(w); got != want {
				t.Errorf("%s is %d: WorldOk is %v", x.name, n, got)
			}
		}
	}
	if impl.MaxTime != 100000 {
		t.Error("MaxTime")
	}
}

func TestWorldOkByWhatIsHeldAndKnown(t *testing.T) {
	checkWorlds(t, fullWorld, []worldCase{
		{"two stripes", func(w *impl.World) { w.St = w.St[:2] }, false},
		{"four stripes", func(w *impl.World) { w.St = append(w.St, impl.Stripe{Held: -1}) }, false},
		{"no stripes", func(w *impl.World) { w.St = nil }, false},
		{"another number of stripes", func(w *impl.World) { w.C.Stripes = 2 }, false},
		{"a trail in another stripe", func(w *impl.World) { w.St[1].L, w.St[0].L = slices.Concat(w.St[0].L, w.St[1].L), nil }, false},
		{"trails that do not ascend", func(w *impl.World) { w.St[0].L = append(w.St[0].L, w.St[0].L[0]); w.Used += 17 }, false},
		{"a trail of nothing", func(w *impl.World) { w.St[0].L[0].Spans = nil; w.Used -= 17 }, false},
		{"a trail with a wrong thing", func(w *impl.World) { w.St[0].L[0].Spans[0].Id = 1000 }, false},
		{"two of one Stamp", func(w *impl.World) { w.St[0].L[0].Stamp, w.W.Near[3][0].Id = 6, 6 }, false},
		{"a First that is to come", func(w *impl.World) { w.St[0].L[0].First = impl.MaxNum }, true},
		{"Used is more", func(w *impl.World) { w.Used++ }, false},
		{"Used is less", func(w *impl.World) { w.Used-- }, false},
		{"Used is just Budget", func(w *impl.World) { w.C.Budget = 68 }, true},
		{"Used is above Budget", func(w *impl.World) { w.C.Budget = 67 }, false},
		{"the bucket's Rate", func(w *impl.World) { w.B.Rate = 2 }, false},
		{"the bucket's Burst", func(w *impl.World) { w.B.Burst = 4 }, false},
		{"At is Now", func(w *impl.World) { w.B.At = 10 }, true},
		{"At is above Now", func(w *impl.World) { w.B.At = 11 }, false},
		{"more tokens than there may be", func(w *impl.World) { w.B.Tokens = 4 }, false},
		{"too much is remembered", func(w *impl.World) { w.Cache = append(w.Cache, impl.Verdict{Trace: 32, Stamp: 1}) }, false},
		{"less is remembered", func(w *impl.World) { w.Cache = w.Cache[:1] }, true},
		{"nothing is remembered", func(w *impl.World) { w.Cache = nil }, true},
		{"a cache of one", func(w *impl.World) { w.C.Cache = 1 }, false},
		{"two judgments of one trail", func(w *impl.World) { w.Cache[1].Trace = 30 }, false},
		{"a judgment of a wrong trail", func(w *impl.World) { w.Cache[1].Trace = 1000 }, false},
		{"a judgment of a trail that is held", func(w *impl.World) { w.Cache[1].Trace = 11 }, true},
	})
}

func TestWorldOkByWhatIsDueAndGoesOut(t *testing.T) {
	checkWorlds(t, fullWorld, []worldCase{
		{"Shut, with Timers", func(w *impl.World) { w.Shut = true }, false},
		{"Shut, with one in the Rest", func(w *impl.World) {
			w.Shut = true
			w.Due = append(w.Due, impl.Timers(w.W)[:2]...)
			w.W = wheelAt(10, impl.Timer{Id: 9, Trace: 51, At: 200})
		}, false},
		{"Shut, without Timers", func(w *impl.World) { w.Shut = true; w.Due = append(w.Due, impl.Timers(w.W)...); w.W = wheelAt(10) }, true},
		{"a Timer where it does not belong", func(w *impl.World) { w.W.Near[3][0].At = 12 }, false},
		{"a Timer of Now", func(w *impl.World) { w.W.Near[2] = []impl.Timer{{Id: 1, Trace: 1, At: 10}} }, false},
		{"a slot too few", func(w *impl.World) { w.W.Near = w.W.Near[:7] }, false},
		{"two Timers of one Id", func(w *impl.World) { w.W.Rest[0].Id = 8 }, false},
		{"a Timer and one of Due of one Id", func(w *impl.World) { w.W.Rest[0].Id = 4 }, true},
		{"two of Due of one Id", func(w *impl.World) { w.Due[1] = w.Due[0] }, true},
		{"nothing else is Due", func(w *impl.World) { w.Due = w.Due[:1] }, true},
		{"Due of an Id of 0", func(w *impl.World) { w.Due[1].Id = 0 }, false},
		{"Due of an Id below 0", func(w *impl.World) { w.Due[1].Id = -1 }, false},
		{"Due of an Id of 1", func(w *impl.World) { w.Due[1].Id = 1 }, true},
		{"Due of a Trace of 0", func(w *impl.World) { w.Due[1].Trace = 0 }, false},
		{"Due of a Trace of 1", func(w *impl.World) { w.Due[1].Trace = 1 }, true},
		{"Due of a Trace of 999", func(w *impl.World) { w.Due[1].Trace = 999 }, true},
		{"Due of a Trace of 1000", func(w *impl.World) { w.Due[1].Trace = 1000 }, false},
		{"Due of an At to come", func(w *impl.World) { w.Due[1].At = math.MaxInt }, true},
		{"Due of an At below 0", func(w *impl.World) { w.Due[1].At = -1 }, true},
		{"more of Due than there may be Timers", func(w *impl.World) { w.Due = append(w.Due, slices.Repeat(w.Due, 20)...) }, true},
		{"more on their way than may be", func(w *impl.World) { w.Queue = append(w.Queue, item(2, 30, 3)) }, false},
		{"fewer may be on their way", func(w *impl.World) { w.C.Queue = 1 }, false},
		{"nothing is on its way", func(w *impl.World) { w.Queue = nil }, true},
		{"a wrong one on its way", func(w *impl.World) { w.Queue[1].S.Trace = 1000 }, false},
		{"one without a Stamp on its way", func(w *impl.World) { w.Queue[0].Stamp = 0 }, false},
		{"one of a Stamp to come on its way", func(w *impl.World) { w.Queue[0].Stamp = 99 }, true},
		{"more went out than may be on their way", func(w *impl.World) { w.Out = slices.Repeat(w.Out, 9) }, true},
		{"nothing went out", func(w *impl.World) { w.Out = nil }, true},
		{"a wrong one went out", func(w *impl.World) { w.Out[0].S.Id = 0 }, false},
		{"one without a Stamp went out", func(w *impl.World) { w.Out = append(w.Out, item(0, 33, 2)) }, false},
		{"one of a Stamp to come went out", func(w *impl.World) { w.Out[0].Stamp = 99 }, true},
	})
}

func TestWorldOkByTasksAndDeeds(t *testing.T) {
	checkWorlds(t, fullWorld, []worldCase{
		{"four tasks", func(w *impl.World) { w.Tasks = w.Tasks[:4] }, false},
		{"six tasks", func(w *impl.World) { w.Tasks = append(w.Tasks, impl.Task{}) }, false},
		{"no tasks", func(w *impl.World) { w.Tasks = nil }, false},
		{"who offers judges", func(w *impl.World) { w.Tasks[2], w.Tasks[4] = w.Tasks[4], impl.Task{}; w.Deeds[2].Task = 2 }, false},
		{"a task about nothing, with a number", func(w *impl.World) { w.Tasks[2].H = 1 }, false},
		{"a hand of another Stamp", func(w *impl.World) { w.Tasks[4].Hand[0].Stamp = 9 }, false},
		{"H is behind the last one", func(w *impl.World) { w.Tasks[0].H = 5 }, false},
		{"H is the last one", func(w *impl.World) {
			w.Deeds = append(w.Deeds, w.Deeds[0])
			w.Tasks[0].H, w.Deeds[0] = 5, impl.Deed{Op: impl.DeShut}
		}, true},
		{"H is far out", func(w *impl.World) { w.Tasks[3].H = math.MaxInt }, false},
		{"H is below 0", func(w *impl.World) { w.Tasks[0].H = -1 }, false},
		{"no deeds", func(w *impl.World) { w.Deeds = nil }, false},
		{"another's deed", func(w *impl.World) { w.Tasks[0].H = 1 }, false},
		{"a deed of another Op, DeJudge", func(w *impl.World) { w.Deeds[0].Op = impl.DeJudge }, false},
		{"a deed of another Op, DeOffer", func(w *impl.World) { w.Deeds[3].Op = impl.DeOffer }, false},
		{"a deed of another Op, DeDrop", func(w *impl.World) { w.Deeds[3].Op = impl.DeDrop }, false},
		{"a deed of another Op, DeShut", func(w *impl.World) { w.Deeds[0].Op = impl.DeShut }, false},
		{"an offer of another Task", func(w *impl.World) { w.Deeds[0].Task = 2 }, false},
		{"a judgment of another Task", func(w *impl.World) { w.Deeds[3].Task = 4 }, false},
		{"an offer of another S", func(w *impl.World) { w.Deeds[0].S.Id = 8 }, false},
		{"an offer of another S in what is said", func(w *impl.World) { w.Deeds[1].S.Attrs[0].N = 8 }, false},
		{"a judgment with an S", func(w *impl.World) { w.Deeds[3].S = thing(1, 1) }, true},
		{"a judgment of another Trace", func(w *impl.World) { w.Deeds[3].Trace = 5 }, false},
		{"a judgment of another Stamp", func(w *impl.World) { w.Deeds[3].Stamp = 8 }, false},
		{"a judgment in hand of another Trace", func(w *impl.World) { w.Deeds[2].Trace = 71 }, false},
		{"a judgment in hand of another Stamp", func(w *impl.World) { w.Deeds[2].Stamp = 9 }, false},
		{"an offer with a trail", func(w *impl.World) { w.Deeds[0].Trace, w.Deeds[0].Stamp = 3, 4 }, true},
		{"an offer that is done", func(w *impl.World) { w.Deeds[0].Code, w.Deeds[0].Lin, w.Deeds[0].Res = impl.CoHeld, 20, 20 }, false},
		{"a judgment that is done", func(w *impl.World) { w.Deeds[2].Res = 30 }, false},
		{"an offer that took place", func(w *impl.World) { w.Deeds[0].Code, w.Deeds[0].Lin = impl.CoHeld, 20 }, false},
		{"a drop in hand that took place", func(w *impl.World) { w.Deeds[1].Code, w.Deeds[1].Lin = impl.CoHeld, 20 }, false},
		{"a judgment that took place too early", func(w *impl.World) { w.Deeds[3].Lin = 33 }, false},
		{"a judgment that did not take place", func(w *impl.World) { w.Deeds[2].Lin = -1 }, false},
		{"a wrong deed", func(w *impl.World) { w.Deeds[4].Code = 6 }, false},
		{"a wrong deed of nobody", func(w *impl.World) { w.Deeds = append(w.Deeds, impl.Deed{}) }, false},
		{"deeds that are not in order", func(w *impl.World) { w.Deeds[4].Inv = 1 }, true},
		{"a Stamp to come of a deed", func(w *impl.World) { w.Deeds[4].Stamp = 99 }, true},
		{"Inv one below Time", func(w *impl.World) { w.Deeds[3].Inv = 39 }, true},
		{"Inv of Time", func(w *impl.World) { w.Deeds[3].Inv = 40 }, false},
		{"Lin one below Time", func(w *impl.World) { w.Deeds[2].Lin = 39 }, true},
		{"Lin of Time", func(w *impl.World) { w.Deeds[2].Lin = 40 }, false},
		{"Res one below Time", func(w *impl.World) { w.Deeds[4].Res = 39 }, true},
		{"Res of Time", func(w *impl.World) { w.Deeds[4].Res = 40 }, false},
		{"Time is less", func(w *impl.World) { w.Time = 37 }, false},
		{"Time is as little as may be", func(w *impl.World) { w.Time = 38 }, true},
	})
}

func TestWorldOkByLocks(t *testing.T) {
	checkWorlds(t, fullWorld, []worldCase{
		{"a stripe is free, and somebody offers there", func(w *impl.World) { w.St[0].Held = -1 }, false},
		{"a stripe is free, and somebody drops there", func(w *impl.World) { w.St[1].Held = -1 }, false},
		{"a stripe is free, and somebody judges there", func(w *impl.World) { w.St[2].Held = -1 }, false},
		{"a stripe is held by another", func(w *impl.World) { w.St[0].Held = 4 }, false},
		{"two stripes are held the other way round", func(w *impl.World) { w.St[0].Held, w.St[1].Held = 1, 0 }, false},
		{"a stripe is held, and nobody is there", func(w *impl.World) { w.Tasks[0].Pc = 0 }, false},
		{"nobody is there, and it is free", func(w *impl.World) { w.Tasks[0].Pc = 0; w.St[0].Held = -1 }, true},
		{"nobody is there at 2, and it is free", func(w *impl.World) { w.Tasks[0].Pc = 2; w.St[0].Held = -1 }, true},
		{"a stripe is held by one about nothing", func(w *impl.World) { w.Tasks[0].Pc = 0; w.St[0].Held = 2 }, false},
		{"a stripe is held by one with something in hand", func(w *impl.World) { w.Tasks[0].Pc = 0; w.St[0].Held = 4 }, false},
		{"two would hold a stripe", func(w *impl.World) { w.Tasks[3].Trace, w.Deeds[3].Trace = 11, 11; w.St[2].Held = -1 }, false},
		{"the rule is free, and somebody is there", func(w *impl.World) { w.RuleHeld = -1 }, false},
		{"the rule is held by another", func(w *impl.World) { w.RuleHeld = 4 }, false},
		{"the rule is held by who offers", func(w *impl.World) { w.RuleHeld = 0 }, false},
		{"the rule is held, and nobody is there", func(w *impl.World) { w.Tasks[3].Pc = 1 }, false},
		{"nobody is there, and the rule is free", func(w *impl.World) { w.Tasks[3].Pc = 1; w.RuleHeld = -1 }, true},
		{"two would hold the rule", func(w *impl.World) {
			w.Tasks[4].Pc, w.Tasks[4].Hand, w.Deeds[2].Lin = 2, nil, -1
			w.Tasks[0].Pc, w.St[0].Held = 0, -1
			w.Tasks[4].Trace, w.Deeds[2].Trace, w.St[0].Held = 1, 1, 4
		}, false},
		{"one at 2, one at 1", func(w *impl.World) {
			w.Tasks[4].Pc, w.Tasks[4].Hand, w.Deeds[2].Lin = 1, nil, -1
			w.Tasks[0].Pc, w.St[0].Held = 0, -1
			w.Tasks[4].Trace, w.Deeds[2].Trace, w.St[0].Held = 1, 1, 4
		}, true},
	})
}

func TestWorldOkByStamps(t *testing.T) {
	checkWorlds(t, fullWorld, []worldCase{
		{"Next is just above all", func(w *impl.World) { w.Next = 11 }, true},
		{"a trail and its Timer, below Next", func(w *impl.World) { w.St[0].L[0].Stamp, w.W.Near[3][0].Id = 11, 11 }, true},
		{"a trail and its Timer, Next", func(w *impl.World) { w.St[0].L[0].Stamp, w.W.Near[3][0].Id = 12, 12 }, false},
		{"a judgment, below Next", func(w *impl.World) { w.Cache[1].Stamp = 11 }, true},
		{"a judgment, Next", func(w *impl.World) { w.Cache[1].Stamp = 12 }, false},
		{"a judgment, above Next", func(w *impl.World) { w.Cache[0].Stamp = math.MaxInt }, false},
		{"a Timer, below Next", func(w *impl.World) { w.W.Rest[0].Id = 11 }, true},
		{"a Timer, Next", func(w *impl.World) { w.W.Rest[0].Id = 12 }, false},
		{"a Timer, above Next", func(w *impl.World) { w.W.Far[3][0].Id = 13 }, false},
		{"one of Due, below Next", func(w *impl.World) { w.Due[1].Id = 11 }, true},
		{"one of Due, Next", func(w *impl.World) { w.Due[1].Id = 12 }, false},
		{"one of Due, above Next", func(w *impl.World) { w.Due[1].Id = 13 }, false},
		{"a task that drops, below Next", func(w *impl.World) { w.Tasks[1].Stamp = 11 }, true},
		{"a task that drops, Next", func(w *impl.World) { w.Tasks[1].Stamp = 12 }, false},
		{"a task that judges, below Next", func(w *impl.World) {
			w.Tasks[4].Stamp, w.Tasks[4].Hand[0].Stamp, w.Deeds[2].Stamp = 11, 11, 11
		}, true},
		{"a task that judges, Next", func(w *impl.World) {
			w.Tasks[4].Stamp, w.Tasks[4].Hand[0].Stamp, w.Deeds[2].Stamp = 12, 12, 12
		}, false},
		{"a task that judges, above Next", func(w *impl.World) {
			w.Tasks[4].Stamp, w.Tasks[4].Hand[0].Stamp, w.Deeds[2].Stamp = 99, 99, 99
		}, false},
	})
	// The Timer is right here, so it is the trail's own Stamp that counts.
	w := impl.WorldNew(rightConf())
	w.Next, w.St, w.Used = 4, stripesOf(2, trail(1, 4, 0, 1)), 17
	w.Due = []impl.Timer{{Id: 4, Trace: 1}}
	if impl.WorldOk(w) {
		t.Error("a trail of the Stamp Next, and one of Due: it is right")
	}
	w.Next = 5
	if !impl.WorldOk(w) {
		t.Error("a trail of a Stamp below Next, and one of Due: it is not right")
	}
}

func TestWorldOkAsksThatEachTrailIsAwaited(t *testing.T) {
	world := func() impl.World {
		w := impl.WorldNew(rightConf())
		w.Time, w.Next, w.St, w.Used = 9, 9, stripesOf(2, trail(1, 4, 0, 1)), 17
		return w
	}
	timers := []struct {
		x    impl.Timer
		want bool
	}{
		{impl.Timer{Id: 4, Trace: 1, At: 3}, true}, {impl.Timer{Id: 4, Trace: 1, At: 30}, true}, {impl.Timer{Id: 4, Trace: 1, At: 300}, true},
		{impl.Timer{Id: 5, Trace: 1, At: 3}, false}, {impl.Timer{Id: 4, Trace: 2, At: 3}, false}, {impl.Timer{Id: 1, Trace: 4, At: 3}, false},
	}
	for _, c := range timers {
		w := world()
		w.W = wheelAt(0, c.x)
		if got := impl.WorldOk(w); got != c.want {
			t.Errorf("the Timer %+v: %v", c.x, got)
		}
		w = world()
		w.Due = []impl.Timer{{Id: 8, Trace: 8}, c.x}
		if got := impl.WorldOk(w); got != c.want {
			t.Errorf("%+v is Due: %v", c.x, got)
		}
	}
	if impl.WorldOk(world()) {
		t.Error("nobody awaits it, and it is right")
	}
	checkWorlds(t, fullWorld, []worldCase{
		{"nobody awaits the first one", func(w *impl.World) { w.W.Near[3] = nil }, false},
		{"nobody awaits the second one", func(w *impl.World) { w.Due = w.Due[1:] }, false},
		{"nobody awaits the third one", func(w *impl.World) { w.Tasks[3].Stamp, w.Deeds[3].Stamp = 8, 8 }, false},
		{"more is awaited than is held", func(w *impl.World) { w.St[0].L, w.Used = nil, 51 }, true},
	})
	for pc := range 4 {
		for _, name := range [][2]int{{1, 4}, {1, 5}, {3, 4}} {
			w := world()
			w.Tasks[4] = impl.Task{Op: impl.OpJudge, Pc: pc, Trace: name[0], Stamp: name[1]}
			w.Deeds = []impl.Deed{{Op: impl.DeJudge, Task: 4, Trace: name[0], Stamp: name[1], Lin: -1, Res: -1}}
			switch pc {
			case 1:
				w.St[1].Held = 4
			case 2:
				w.St[1].Held, w.RuleHeld = 4, 4
			case 3:
				w.Tasks[4].Hand, w.Deeds[0].Lin = []impl.Item{item(name[1], 1, 1)}, 5
			}
			if got, want := impl.WorldOk(w), pc < 3 && name == [2]int{1, 4}; got != want {
				t.Errorf("a task that judges %v at %d: %v", name, pc, got)
			}
			w.Due = []impl.Timer{{Id: 4, Trace: 1}}
			if !impl.WorldOk(w) {
				t.Errorf("a task that judges %v at %d, and it is Due: it is not right", name, pc)
			}
		}
	}
	w := world()
	w.Tasks[1] = impl.Task{Op: impl.OpOffer, Pc: 3, S: thing(2, 1), Trace: 1, Stamp: 4}
	w.Deeds = []impl.Deed{{Op: impl.DeOffer, Task: 1, S: thing(2, 1), Lin: -1, Res: -1}}
	w.St[1].Held = 1
	if impl.WorldOk(w) {
		t.Error("just one who drops it is about it, and it is right")
	}
}

func TestBusyAndTimeOf(t *testing.T) {
	if n := impl.Busy(fullWorld()); n != 4 {
		t.Errorf("Busy is %d", n)
	}
	for n := range 8 {
		w := impl.World{Tasks: make([]impl.Task, 7)}
		for k := range n {
			w.Tasks[6-k].Op = []int{1, 2, 3, -1}[k%4]
		}
		if got := impl.Busy(w); got != n {
			t.Errorf("Busy of %d is %d", n, got)
		}
	}
	for _, now := range []int{math.MinInt, -1, 0, 7, 100000, 100001, math.MaxInt} {
		w := fullWorld()
		w.W.Now = now
		if got := impl.TimeOf(w); got != now {
			t.Errorf("TimeOf is %d, want %d", got, now)
		}
	}
	if impl.Busy(impl.World{}) != 0 || impl.TimeOf(impl.World{}) != 0 {
		t.Error("of nothing there is something")
	}
}

func TestWorldsAreLeftAsTheyWere(t *testing.T) {
	w := roomy(fullWorld())
	check := watched(w)
	if !impl.WorldOk(w) || impl.Busy(w) != 4 || impl.TimeOf(w) != 10 {
		t.Error("what lies behind a list was looked at")
	}
	check(t, "they")
}
