package tests

import (
	"fmt"
	"math"
	"slices"
	"testing"

	"loop.example/g00488/impl"
)

// Of two stripes, 2, 5 and 7 belong to the first one, 1, 3 and 4 to the second one.
func judgeConf(rule impl.Pol) impl.Conf {
	return impl.Conf{Stripes: 2, Wait: 3, Budget: 90, Cache: 2, Queue: 2, Rate: 1, Burst: 5, Rule: rule}
}

func judgesAt(pc, trace, stamp int, hand ...impl.Item) impl.Task {
	return impl.Task{Op: impl.OpJudge, Pc: pc, Trace: trace, Stamp: stamp, Hand: hand}
}

// A world at 10 in which the task k is about x, beside the trails, none of which has a Timer: they are Due.
func judgeWorld(rule impl.Pol, k int, x impl.Task, trails ...impl.Trail) impl.World {
	w := worldOf(judgeConf(rule), 10, trails...)
	w.Due, w.W = impl.Timers(w.W), wheelAt(10)
	w.Next = 20
	letBe(&w, k, x)
	return w
}

func TestBeginOfEachTask(t *testing.T) {
	due := []impl.Timer{{Id: 6, Trace: 3, At: 9}, {Id: 4, Trace: 1, At: 8}, {Id: 6, Trace: 3, At: 9}}
	for n := range 4 {
		w := worldOf(judgeConf(errPol), 10, trail(2, 9, 8, 1))
		w.Due, w.Next = due[:n], 20
		letBe(&w, 0, offersAt(1, thing(5, 1)))
		for k := -1; k <= 5; k++ {
			name := fmt.Sprintf("Begin of %d, %d are Due", k, n)
			if k != 3 && k != 4 || n == 0 {
				refuses(t, name, w, of(impl.Begin, k))
				continue
			}
			does(t, name, w, of(impl.Begin, k), func(x *impl.World) {
				x.Due = due[1:n]
				x.Deeds = append(x.Deeds, impl.Deed{Op: impl.DeJudge, Task: k, Trace: 3, Stamp: 6, Now: 10, Inv: 100, Lin: -1, Res: -1})
				x.Tasks[k] = impl.Task{Op: impl.OpJudge, Trace: 3, Stamp: 6, H: 1}
			})
		}
		for _, k := range []int{math.MinInt, math.MaxInt} {
			refuses(t, "Begin of one far out", w, of(impl.Begin, k))
		}
	}
}

// What is due is taken whether its trail is there or not.
func TestBeginOfATrailThatIsThere(t *testing.T) {
	w := worldOf(judgeConf(errPol), 10, trail(2, 9, 8, 1))
	w.Due, w.W = impl.Timers(w.W), wheelAt(10)
	does(t, "its trail is there", w, of(impl.Begin, 4), func(x *impl.World) {
		x.Due = nil
		x.Deeds = []impl.Deed{{Op: impl.DeJudge, Task: 4, Trace: 2, Stamp: 9, Now: 10, Inv: 100, Lin: -1, Res: -1}}
		x.Tasks[4] = impl.Task{Op: impl.OpJudge, Trace: 2, Stamp: 9}
	})
}

func TestBeginOfATaskThatIsAboutSomething(t *testing.T) {
	for pc := range 4 {
		x := judgesAt(pc, 1, 4)
		if pc == 3 {
			x.Hand = []impl.Item{item(4, 1, 1)}
		}
		w := judgeWorld(errPol, 3, x, trail(2, 9, 8, 1))
		refuses(t, fmt.Sprintf("Begin of one at %d", pc), w, of(impl.Begin, 3))
		if _, ok := impl.Begin(w, 4); !ok {
			t.Errorf("one at %d: the other one cannot begin", pc)
		}
	}
}

func TestJudgeStepTakesTheStripe(t *testing.T) {
	for _, k := range []int{3, 4} {
		for _, trace := range []int{1, 2} {
			own := wantedMix(trace) % 2
			w := judgeWorld(errPol, k, judgesAt(0, trace, 4), trail(3, 6, 8, 1))
			taken := func(x *impl.World) { x.St[own].Held, x.Tasks[k].Pc = k, 1 }
			does(t, "the lock is free", w, of(impl.JudgeStep, k), taken)
			other := cloneOf(w)
			letBe(&other, 1, offersAt(1, thing(trace, 8)))
			refuses(t, "one who offers holds it", other, of(impl.JudgeStep, k))
			other = cloneOf(w)
			letBe(&other, 7-k, judgesAt(1, trace, 5))
			refuses(t, "one who judges holds it", other, of(impl.JudgeStep, k))
			other = cloneOf(w)
			letBe(&other, 7-k, judgesAt(2, 3-trace, 5))
			does(t, "the other stripe and the rule are held", other, of(impl.JudgeStep, k), taken)
			other = cloneOf(w)
			other.St[own].Held = k
			refuses(t, "it holds it itself already, which is not right", other, of(impl.JudgeStep, k))
		}
	}
}

func TestJudgeStepTakesTheRule(t *testing.T) {
	for _, k := range []int{3, 4} {
		w := judgeWorld(errPol, k, judgesAt(1, 1, 4), trail(1, 4, 7, 1))
		taken := func(x *impl.World) { x.RuleHeld, x.Tasks[k].Pc = k, 2 }
		does(t, "the rule is free", w, of(impl.JudgeStep, k), taken)
		other := cloneOf(w)
		letBe(&other, 7-k, judgesAt(2, 2, 5))
		refuses(t, "the other one holds it", other, of(impl.JudgeStep, k))
		other = cloneOf(w)
		letBe(&other, 7-k, judgesAt(1, 2, 5))
		does(t, "the other one wants it, too", other, of(impl.JudgeStep, k), taken)
		other = cloneOf(w)
		other.RuleHeld = k
		refuses(t, "it holds it itself already, which is not right", other, of(impl.JudgeStep, k))
	}
}

// What it is that the task k judged its trail, kept or not: what is to be in hand is all of it, or nothing.
func hasJudged(x *impl.World, k int, gone impl.Trail, keep bool, took, forgot int) {
	s := wantedMix(gone.Id) % len(x.St)
	x.St[s].L = slices.DeleteFunc(x.St[s].L, func(t impl.Trail) bool { return t.Id == gone.Id })
	x.St[s].Held, x.RuleHeld = -1, -1
	x.Used -= impl.TotalOf(gone.Spans)
	x.Cache = append(x.Cache, impl.Verdict{Trace: gone.Id, Stamp: gone.Stamp, Keep: keep})
	d := &x.Deeds[x.Tasks[k].H]
	d.Keep, d.Took, d.N, d.Forgot, d.Now, d.Lin = keep, took, len(gone.Spans), forgot, x.W.Now, x.Time-1
	if !keep {
		d.Res = x.Time - 1
		x.Tasks[k] = impl.Task{}
		return
	}
	x.Tasks[k].Pc = 3
	for _, s := range gone.Spans {
		x.Tasks[k].Hand = append(x.Tasks[k].Hand, impl.Item{Stamp: gone.Stamp, S: s})
	}
}

// Promise 18, its second half, for rules that keep and that do not.
func TestJudgeStepJudges(t *testing.T) {
	bad := trail(1, 4, 7, 3, 1, 2)
	bad.Spans[1].Err = true
	for _, gone := range []impl.Trail{trail(1, 4, 7, 1), trail(1, 4, 7, 3, 1, 2), bad} {
		for _, p := range []impl.Pol{allPol, errPol, notPol(allPol), notPol(errPol), numPol("n", 3), numPol("n", 4)} {
			for _, k := range []int{3, 4} {
				w := judgeWorld(p, k, judgesAt(2, 1, 4), gone, trail(3, 6, 8, 1))
				w.B = bucket(1, 5, 2, 9)
				keep := wantedWants(p, gone.Spans, 3)
				does(t, fmt.Sprintf("by %s", impl.PolText(p)), w, of(impl.JudgeStep, k), func(x *impl.World) {
					x.B = bucket(1, 5, 3, 10)
					hasJudged(x, k, gone, keep, 0, 0)
				})
			}
		}
	}
}

func TestJudgeStepSpendsTokens(t *testing.T) {
	gone := trail(1, 4, 7, 3, 1, 2)
	cases := []struct {
		name   string
		rule   impl.Pol
		b      impl.Bucket
		tokens int
		keep   bool
		took   int
	}{
		{"too few", ratePol, bucket(1, 5, 2, 10), 2, false, 0},
		{"just enough", ratePol, bucket(1, 5, 3, 10), 0, true, 3},
		{"more", ratePol, bucket(1, 5, 4, 10), 1, true, 3},
		{"as many as there may be", ratePol, bucket(1, 5, 5, 10), 2, true, 3},
		{"none", ratePol, bucket(1, 5, 0, 10), 0, false, 0},
		{"too few, refilled", ratePol, bucket(1, 5, 0, 8), 2, false, 0},
		{"just enough, refilled", ratePol, bucket(1, 5, 1, 8), 0, true, 3},
		{"full, refilled", ratePol, bucket(1, 5, 4, 0), 2, true, 3},
		{"none come", ratePol, bucket(0, 5, 2, 0), 2, false, 0},
		{"there may be none", ratePol, bucket(9, 0, 0, 0), 0, false, 0},
		{"there may be fewer", ratePol, bucket(9, 2, 2, 0), 2, false, 0},
		{"kept by something else, with too few", orPol(ratePol, allPol), bucket(1, 5, 1, 10), 0, true, 1},
		{"kept by something else, with none", orPol(allPol, ratePol), bucket(1, 5, 0, 10), 0, true, 0},
		{"kept for want of tokens", notPol(ratePol), bucket(1, 5, 2, 10), 0, true, 2},
		{"not kept for want of want", notPol(ratePol), bucket(1, 5, 3, 10), 3, false, 0},
		{"no rate in the rule", allPol, bucket(1, 5, 2, 9), 3, true, 0},
		{"no rate in the rule, not kept", errPol, bucket(1, 5, 2, 7), 5, false, 0},
	}
	for _, c := range cases {
		w := judgeWorld(c.rule, 3, judgesAt(2, 1, 4), gone)
		w.B, w.C.Rate, w.C.Burst = c.b, c.b.Rate, c.b.Burst
		does(t, c.name, w, of(impl.JudgeStep, 3), func(x *impl.World) {
			x.B.Tokens, x.B.At = c.tokens, 10
			hasJudged(x, 3, gone, c.keep, c.took, 0)
		})
	}
}

func TestJudgeStepRemembers(t *testing.T) {
	gone := trail(1, 4, 7, 1, 2)
	for _, p := range []impl.Pol{allPol, errPol} {
		cases := []struct {
			name   string
			known  []impl.Verdict
			left   int
			forgot int
		}{
			{"nothing", nil, 0, 0},
			{"one", []impl.Verdict{{Trace: 50, Stamp: 1, Keep: true}}, 0, 0},
			{"as many as may be", []impl.Verdict{{Trace: 50, Stamp: 1, Keep: true}, {Trace: 51, Stamp: 2}}, 1, 50},
			{"an earlier one of this trail", []impl.Verdict{{Trace: 1, Stamp: 1, Keep: true}, {Trace: 51, Stamp: 2}}, 1, 0},
		}
		for _, c := range cases {
			w := judgeWorld(p, 4, judgesAt(2, 1, 4), gone)
			w.Cache, w.B.At = c.known, 10
			does(t, "what is remembered: "+c.name, w, of(impl.JudgeStep, 4), func(x *impl.World) {
				x.Cache = x.Cache[c.left:]
				hasJudged(x, 4, gone, p.Kind == impl.PoAll, 0, c.forgot)
			})
		}
	}
}

func TestJudgeStepWhereThereIsNothingToJudge(t *testing.T) {
	cases := map[string][]impl.Trail{
		"nothing is held":         nil,
		"others are held":         {trail(2, 5, 7, 1), trail(3, 6, 8, 1)},
		"it is of another Stamp":  {trail(1, 5, 7, 1)},
		"its Stamp is of another": {trail(3, 4, 7, 1)},
	}
	for name, trails := range cases {
		w := judgeWorld(allPol, 3, judgesAt(2, 1, 4), trails...)
		w.B, w.Cache = bucket(1, 5, 2, 7), []impl.Verdict{{Trace: 1, Stamp: 4, Keep: true}, {Trace: 51, Stamp: 2}}
		does(t, name, w, of(impl.JudgeStep, 3), func(x *impl.World) {
			d := &x.Deeds[0]
			d.Void, d.Now, d.Lin, d.Res = true, 10, 100, 100
			x.St[1].Held, x.RuleHeld = -1, -1
			x.Tasks[3] = impl.Task{}
		})
	}
}

// Others keep their locks, and what they have in hand.
func TestJudgeStepLeavesOthersAlone(t *testing.T) {
	gone := trail(1, 4, 7, 1, 2)
	w := judgeWorld(allPol, 3, judgesAt(2, 1, 4), gone)
	w.B.At = 10
	letBe(&w, 0, offersAt(1, thing(2, 9)))
	letBe(&w, 1, offersAt(0, thing(1, 9)))
	letBe(&w, 4, judgesAt(3, 70, 6, item(6, 70, 1)))
	does(t, "others", w, of(impl.JudgeStep, 3), func(x *impl.World) { hasJudged(x, 3, gone, true, 0, 0) })
}

func TestJudgeStepSends(t *testing.T) {
	for many := 1; many <= 3; many++ {
		for onWay := range 3 {
			hand := []impl.Item{item(4, 1, 3), item(4, 1, 1), item(4, 1, 2)}[:many]
			w := judgeWorld(allPol, 4, judgesAt(3, 1, 4, hand...), trail(2, 5, 7, 1))
			w.Queue = []impl.Item{item(2, 50, 1), item(2, 50, 2)}[:onWay]
			w.Out = []impl.Item{item(1, 51, 1)}
			letBe(&w, 3, judgesAt(2, 1, 6))
			name := fmt.Sprintf("%d in hand, %d on their way", many, onWay)
			if onWay == 2 {
				refuses(t, name, w, of(impl.JudgeStep, 4))
				continue
			}
			does(t, name, w, of(impl.JudgeStep, 4), func(x *impl.World) {
				x.Queue = append(x.Queue, item(4, 1, 3))
				x.Tasks[4].Hand = hand[1:]
				if many == 1 {
					x.Deeds[0].Res = 100
					x.Tasks[4] = impl.Task{}
				}
			})
		}
	}
}

func TestJudgeStepOfWhoDoesNotJudge(t *testing.T) {
	w := judgeWorld(allPol, 3, judgesAt(0, 1, 4), trail(1, 4, 7, 1))
	for k := range 3 {
		for pc := range 4 {
			x := offersAt(pc, thing(2, 9))
			if pc == 3 {
				x = drops(thing(2, 9), 1, 4)
			}
			offers := cloneOf(w)
			letBe(&offers, k, x)
			refuses(t, fmt.Sprintf("one who offers at %d", pc), offers, of(impl.JudgeStep, k))
		}
	}
	for _, k := range []int{math.MinInt, -1, 0, 1, 2, 4, 5, math.MaxInt} {
		refuses(t, fmt.Sprintf("the task %d", k), w, of(impl.JudgeStep, k))
	}
}

func TestJudgeStepOfAWrongWorld(t *testing.T) {
	for pc := range 4 {
		x := judgesAt(pc, 1, 4)
		if pc == 3 {
			x.Hand = []impl.Item{item(4, 1, 1)}
		}
		w := judgeWorld(allPol, 4, x, trail(1, 4, 7, 1))
		refusesWrongWorlds(t, fmt.Sprintf("JudgeStep at %d", pc), w, of(impl.JudgeStep, 4))
		refusesWrongWorlds(t, "Begin", w, of(impl.Begin, 3))
		w.Time = math.MaxInt
		refuses(t, "there is no Time behind this one", w, of(impl.JudgeStep, 4))
		refuses(t, "there is no Time behind this one, to begin", w, of(impl.Begin, 3))
	}
}

// Promise 18: many offer, and both judge, in whatever order they are picked.
func TestEachStepOfWhoJudgesLeavesARightWorld(t *testing.T) {
	seed := uint32(18)
	roll := func(n int) int {
		seed = seed*1664525 + 1013904223
		return int(seed>>16) % n
	}
	kept, voids := 0, 0
	for round := range 60 {
		c := judgeConf([]impl.Pol{allPol, ratePol, numPol("n", 20), orPol(ratePol, numPol("n", 40))}[round%4])
		c.Stripes, c.Budget, c.Cache, c.Queue, c.Wait = 1+roll(3), 17+roll(80), 1+roll(3), 1+roll(2), 1+roll(4)
		w := impl.WorldNew(c)
		for i := range 150 {
			if roll(10) == 0 {
				next, due := impl.Advance(w.W, 1)
				w.W, w.Due = next, append(w.Due, due...)
			}
			if roll(5) == 0 {
				w.Queue = nil
			}
			k := roll(5)
			var next impl.World
			ok := false
			switch {
			case k >= 3 && w.Tasks[k].Op == impl.OpNone:
				next, ok = impl.Begin(w, k)
			case k >= 3:
				next, ok = impl.JudgeStep(w, k)
			case w.Tasks[k].Op == impl.OpNone:
				next, ok = impl.Offer(w, k, thing(1+roll(5), 1+i))
			default:
				next, ok = impl.OfferStep(w, k)
			}
			if !impl.WorldOk(next) || !ok && differs(w, next) != "" || ok && next.Time != w.Time+1 {
				t.Fatalf("round %d, step %d, of %d: %v: %+v", round, i, k, ok, next)
			}
			if k >= 3 && ok && w.Tasks[k].Pc == 2 {
				held, there := impl.FindTrail(w.St, w.Tasks[k].Trace)
				there = there && held.Stamp == w.Tasks[k].Stamp
				d := next.Deeds[w.Tasks[k].H]
				if d.Void == there || d.Keep && !sameSpans(impl.ItemsOf(next.Tasks[k].Hand, held.Stamp), held.Spans) || !d.Keep && len(next.Tasks[k].Hand) > 0 {
					t.Fatalf("round %d, step %d: of %+v, %+v is in hand", round, i, held, next.Tasks[k].Hand)
				}
				if d.Keep {
					kept++
				}
				if d.Void {
					voids++
				}
			}
			w = next
		}
	}
	if kept < 20 || voids < 5 {
		t.Errorf("too little came of it: %d were kept, %d void", kept, voids)
	}
}
