package tests

import (
	"fmt"
	"math"
	"slices"
	"testing"

	"loop.example/g00488/impl"
)

// There is room for three things of 17 bytes each. Of two stripes, 2, 5, 7 and 8 belong to the first one, 1, 3, 4 and 6 to the second one.
func offerConf() impl.Conf {
	return impl.Conf{Stripes: 2, Wait: 3, Budget: 51, Cache: 2, Queue: 2, Rate: 1, Burst: 3, Rule: errPol}
}

// How a task that offers s stands at a place.
func offersAt(pc int, s impl.Span) impl.Task {
	return impl.Task{Op: impl.OpOffer, Pc: pc, S: s}
}

func drops(s impl.Span, trace, stamp int) impl.Task {
	return impl.Task{Op: impl.OpOffer, Pc: 3, S: s, Trace: trace, Stamp: stamp}
}

// A world in which the task k is about x, beside the trails.
func offerWorld(k int, x impl.Task, trails ...impl.Trail) impl.World {
	w := worldOf(offerConf(), 10, trails...)
	letBe(&w, k, x)
	return w
}

// What it is to end with a code: of the task's deed, the lock of its stripe, and the task.
func ends(w *impl.World, k, code, stamp int) {
	d := &w.Deeds[w.Tasks[k].H]
	d.Code, d.Stamp, d.Now, d.Lin, d.Res = code, stamp, w.W.Now, w.Time-1, w.Time-1
	w.St[wantedMix(w.Tasks[k].S.Trace)%len(w.St)].Held = -1
	w.Tasks[k] = impl.Task{}
}

func TestOfferOfEachTask(t *testing.T) {
	for k := -1; k <= 5; k++ {
		for _, w := range []impl.World{impl.WorldNew(offerConf()), offerWorld(0, offersAt(1, thing(2, 1)), trail(1, 1, 9, 1))} {
			name := fmt.Sprintf("Offer of %d", k)
			if k < 0 || k > 2 || w.Tasks[k].Op != impl.OpNone {
				refuses(t, name, w, offer(k, thing(1, 1)))
				refuses(t, name+", of what does not fit", w, offer(k, impl.Span{}))
				continue
			}
			got := does(t, name, w, offer(k, thing(1, 1)), func(x *impl.World) {
				x.Deeds = append(x.Deeds, impl.Deed{Op: impl.DeOffer, Task: k, S: thing(1, 1), Now: w.W.Now, Inv: w.Time, Lin: -1, Res: -1})
				x.Tasks[k] = impl.Task{Op: impl.OpOffer, S: thing(1, 1), H: len(w.Deeds)}
			})
			refuses(t, name+" again", got, offer(k, thing(1, 2)))
		}
	}
	for _, k := range []int{math.MinInt, math.MaxInt} {
		refuses(t, "Offer of one far out", impl.WorldNew(offerConf()), offer(k, thing(1, 1)))
	}
}

func TestOfferOfATaskThatIsAboutSomething(t *testing.T) {
	for pc := range 4 {
		x := offersAt(pc, thing(2, 1))
		if pc == 3 {
			x = drops(thing(2, 1), 1, 1)
		}
		w := offerWorld(1, x, trail(1, 1, 9, 1))
		refuses(t, "one that is about something", w, offer(1, thing(1, 1)))
		refuses(t, "one that is about something, of what does not fit", w, offer(1, impl.Span{}))
	}
}

func TestOfferOfWhatFitsAndDoesNot(t *testing.T) {
	wrong := rightSpan()
	wrong.Attrs[0].Key = "A"
	cases := []struct {
		name   string
		s      impl.Span
		budget int
		want   bool
	}{
		{"the least one", impl.Span{Trace: 1, Id: 1}, 12, true},
		{"the least one, with too little room", impl.Span{Trace: 1, Id: 1}, 11, false},
		{"as large as the Budget", thing(1, 1), 17, true},
		{"one larger than the Budget", thing(1, 1), 16, false},
		{"the largest one", fullSpan(), 96, true},
		{"the largest one, with more room", fullSpan(), 190, true},
		{"the largest one, one above the Budget", fullSpan(), 95, false},
		{"not SpanOk", wrong, 190, false},
		{"the zero one", impl.Span{}, 190, false},
		{"a Trace of 1000", thing(1000, 1), 190, false},
		{"too large at all", impl.Span{Trace: 1, Id: 1, Attrs: append(fullSpan().Attrs, numAttr("d", 1))}, 190, false},
	}
	for _, c := range cases {
		for _, shut := range []bool{false, true} {
			w := worldOf(offerConf(), 10)
			w.C.Budget, w.Shut = c.budget, shut
			does(t, c.name, w, offer(2, roomy(c.s)), func(x *impl.World) {
				d := impl.Deed{Op: impl.DeOffer, Task: 2, S: c.s, Now: 10, Inv: 100, Lin: -1, Res: -1}
				if c.want {
					x.Tasks[2] = offersAt(0, c.s)
				} else {
					d.Code, d.Lin, d.Res = impl.CoBad, 100, 100
				}
				x.Deeds = append(x.Deeds, d)
			})
		}
	}
}

func TestOfferSharesNothingWithTheThing(t *testing.T) {
	for _, s := range []impl.Span{rightSpan(), {Attrs: []impl.Attr{{}}}} {
		given := roomy(s)
		check := watched(given)
		got, ok := impl.Offer(impl.WorldNew(offerConf()), 0, given)
		check(t, "Offer")
		apart(t, "Offer", []any{got}, given)
		if !ok || !impl.WorldOk(got) {
			t.Errorf("Offer of %+v: %v, %+v", s, ok, got)
		}
	}
}

func TestOfferStepTakesTheLock(t *testing.T) {
	for k := range 3 {
		for _, trace := range []int{1, 2} {
			own := wantedMix(trace) % 2
			w := offerWorld(k, offersAt(0, thing(trace, 9)), trail(3, 4, 9, 1))
			does(t, "the lock is free", w, of(impl.OfferStep, k), func(x *impl.World) {
				x.St[own].Held, x.Tasks[k].Pc = k, 1
			})
			other := cloneOf(w)
			letBe(&other, (k+1)%3, offersAt(1, thing(trace, 8)))
			refuses(t, "another one who offers holds it", other, of(impl.OfferStep, k))
			other = cloneOf(w)
			letBe(&other, (k+1)%3, offersAt(1, thing(3-trace, 8)))
			does(t, "the other stripe is held", other, of(impl.OfferStep, k), func(x *impl.World) {
				x.St[own].Held, x.Tasks[k].Pc = k, 1
			})
			other = cloneOf(w)
			letBe(&other, 4, impl.Task{Op: impl.OpJudge, Pc: 1, Trace: trace, Stamp: 1})
			refuses(t, "one who judges holds it", other, of(impl.OfferStep, k))
			other = cloneOf(w)
			other.St[own].Held = k
			refuses(t, "it holds it itself already, which is not right", other, of(impl.OfferStep, k))
		}
	}
}

func TestOfferStepWhereItIsShut(t *testing.T) {
	w := offerWorld(0, offersAt(1, thing(2, 9)))
	w.Shut = true
	does(t, "shut", w, of(impl.OfferStep, 0), func(x *impl.World) { ends(x, 0, impl.CoShut, 0) })
	w.Cache = []impl.Verdict{{Trace: 2, Stamp: 1, Keep: true}}
	w.Next = 2
	w.Queue = []impl.Item{item(1, 3, 1), item(1, 3, 2)}
	does(t, "shut, and judged", w, of(impl.OfferStep, 0), func(x *impl.World) { ends(x, 0, impl.CoShut, 0) })
	w = offerWorld(0, offersAt(1, thing(2, 9)), trail(2, 1, 9, 1, 2, 3))
	w.Due, w.W = impl.Timers(w.W), wheelAt(10)
	w.Shut = true
	does(t, "shut, and without room", w, of(impl.OfferStep, 0), func(x *impl.World) { ends(x, 0, impl.CoShut, 0) })
}

func TestOfferStepOfATrailThatWasJudged(t *testing.T) {
	for onWay := range 3 {
		for _, keep := range []bool{true, false} {
			w := offerWorld(1, offersAt(1, thing(2, 9)), trail(3, 6, 9, 1, 2, 3))
			w.Cache = []impl.Verdict{{Trace: 8, Stamp: 3, Keep: !keep}, {Trace: 2, Stamp: 5, Keep: keep}}
			w.Queue = []impl.Item{item(3, 8, 1), item(3, 8, 2)}[:onWay]
			name := fmt.Sprintf("kept: %v, %d on their way", keep, onWay)
			switch {
			case keep && onWay == 2:
				refuses(t, name, w, of(impl.OfferStep, 1))
			case keep:
				does(t, name, w, of(impl.OfferStep, 1), func(x *impl.World) {
					x.Queue = append(x.Queue, item(5, 2, 9))
					ends(x, 1, impl.CoLate, 5)
				})
			default:
				does(t, name, w, of(impl.OfferStep, 1), func(x *impl.World) { ends(x, 1, impl.CoGone, 5) })
			}
		}
	}
	w := offerWorld(1, offersAt(1, thing(2, 9)), trail(2, 6, 9, 1))
	w.Cache = []impl.Verdict{{Trace: 2, Stamp: 5}}
	does(t, "it is held, too", w, of(impl.OfferStep, 1), func(x *impl.World) { ends(x, 1, impl.CoGone, 5) })
}

func TestOfferStepOfATrailThatIsNew(t *testing.T) {
	w := offerWorld(2, offersAt(1, thing(5, 9)), trail(2, 6, 9, 1), trail(8, 3, 9, 1))
	w.Cache = []impl.Verdict{{Trace: 1, Stamp: 2, Keep: true}}
	hold := func(x *impl.World) {
		x.St[0].L = []impl.Trail{trail(2, 6, 9, 1), trail(5, 7, 10, 9), trail(8, 3, 9, 1)}
		x.Used, x.Next = 51, 8
		lay(&x.W, impl.Timer{Id: 7, Trace: 5, At: 13})
		ends(x, 2, impl.CoHeld, 7)
	}
	does(t, "just as much as there is room for", w, of(impl.OfferStep, 2), hold)
	w.C.Budget = 52
	does(t, "there is more room", w, of(impl.OfferStep, 2), hold)
	w.C.Budget = 50
	does(t, "one byte too much", w, of(impl.OfferStep, 2), func(x *impl.World) {
		x.St[0].Held, x.Tasks[2].Pc = -1, 2
	})
	first := offerWorld(0, offersAt(1, rightSpan()))
	does(t, "the first one of all", first, of(impl.OfferStep, 0), func(x *impl.World) {
		x.St[0].L = []impl.Trail{{Id: 7, Stamp: 1, First: 10, Spans: []impl.Span{rightSpan()}}}
		x.Used, x.Next = 22, 2
		lay(&x.W, impl.Timer{Id: 1, Trace: 7, At: 13})
		ends(x, 0, impl.CoHeld, 1)
	})
	for _, now := range []int{0, 7, 8, 63, impl.MaxTime} {
		for _, wait := range []int{1, 50} {
			late := worldOf(offerConf(), now)
			late.C.Wait = wait
			letBe(&late, 0, offersAt(1, thing(2, 9)))
			does(t, fmt.Sprintf("at %d, for %d", now, wait), late, of(impl.OfferStep, 0), func(x *impl.World) {
				x.St[0].L = []impl.Trail{trail(2, 1, now, 9)}
				x.Used, x.Next = 17, 2
				lay(&x.W, impl.Timer{Id: 1, Trace: 2, At: now + wait})
				ends(x, 0, impl.CoHeld, 1)
			})
		}
	}
}

func TestOfferStepOfATrailThatIsHeld(t *testing.T) {
	w := offerWorld(0, offersAt(1, thing(2, 9)), trail(2, 6, 9, 1, 2), trail(5, 8, 9, 1))
	w.C.Budget = 68
	hold := func(x *impl.World) {
		x.St[0].L = []impl.Trail{trail(2, 6, 9, 1, 2, 9), trail(5, 8, 9, 1)}
		x.Used = 68
		ends(x, 0, impl.CoHeld, 6)
	}
	does(t, "just as much as there is room for", w, of(impl.OfferStep, 0), hold)
	due := cloneOf(w)
	due.Due, due.W = impl.Timers(w.W), wheelAt(10)
	does(t, "it is due already", due, of(impl.OfferStep, 0), hold)
	w.C.Budget = 67
	does(t, "one byte too much", w, of(impl.OfferStep, 0), func(x *impl.World) { x.St[0].Held, x.Tasks[0].Pc = -1, 2 })
}

// Where the Timer of a new trail, or its Stamp, cannot be, the step cannot be done.
func TestOfferStepAtTheEndsOfWheelAndNumbers(t *testing.T) {
	full := offerWorld(0, offersAt(1, thing(2, 9)), trail(5, 1, 9, 1))
	full.Next = 40
	for id := 2; id <= 16; id++ {
		lay(&full.W, impl.Timer{Id: id, Trace: 99, At: 10 + id})
	}
	refuses(t, "the wheel is full", full, of(impl.OfferStep, 0))
	held := cloneOf(full)
	held.Tasks[0].S.Trace, held.Deeds[0].S.Trace = 5, 5
	does(t, "the wheel is full, but the trail has its Timer", held, of(impl.OfferStep, 0), func(x *impl.World) {
		x.St[0].L[0].Spans = append(x.St[0].L[0].Spans, x.Deeds[0].S)
		x.Used = 34
		ends(x, 0, impl.CoHeld, 1)
	})
	last := offerWorld(0, offersAt(1, thing(2, 9)), trail(5, 1, 9, 1))
	last.Next = math.MaxInt
	refuses(t, "there is no Stamp behind the next one", last, of(impl.OfferStep, 0))
	last.Next--
	does(t, "there is just one", last, of(impl.OfferStep, 0), func(x *impl.World) {
		x.St[0].L = []impl.Trail{trail(2, math.MaxInt-1, 10, 9), trail(5, 1, 9, 1)}
		x.Used, x.Next = 34, math.MaxInt
		lay(&x.W, impl.Timer{Id: math.MaxInt - 1, Trace: 2, At: 13})
		ends(x, 0, impl.CoHeld, math.MaxInt-1)
	})
	last = offerWorld(0, offersAt(0, thing(2, 9)))
	last.Time = math.MaxInt
	refuses(t, "there is no Time behind this one", last, of(impl.OfferStep, 0))
	refuses(t, "there is no Time behind this one, to offer", last, offer(1, thing(1, 1)))
	refuses(t, "there is no Time behind this one, to offer what does not fit", last, offer(1, impl.Span{}))
	last.Time--
	does(t, "there is just one Time", last, of(impl.OfferStep, 0), func(x *impl.World) { x.St[0].Held, x.Tasks[0].Pc = 0, 1 })
}

func TestOfferStepLooksForTheOldest(t *testing.T) {
	cases := []struct {
		name   string
		trails []impl.Trail
		trace  int
		stamp  int
	}{
		{"one alone, in the same stripe", []impl.Trail{trail(5, 1, 9, 1, 2, 3)}, 5, 1},
		{"one alone, in the other stripe", []impl.Trail{trail(1, 1, 9, 1, 2, 3)}, 1, 1},
		{"by its First, in the same stripe", []impl.Trail{trail(5, 3, 7, 1), trail(1, 1, 8, 1), trail(3, 2, 9, 1)}, 5, 3},
		{"by its First, in the other stripe", []impl.Trail{trail(5, 1, 8, 1), trail(1, 2, 9, 1), trail(3, 3, 7, 1)}, 3, 3},
		{"by its Stamp", []impl.Trail{trail(5, 3, 8, 1), trail(1, 5, 8, 1), trail(3, 2, 8, 1)}, 3, 2},
		{"its own trail", []impl.Trail{trail(2, 1, 8, 1, 2), trail(3, 2, 8, 1)}, 2, 1},
	}
	for _, c := range cases {
		w := offerWorld(0, offersAt(2, thing(2, 9)), c.trails...)
		its := wantedMix(c.trace) % 2
		found := func(x *impl.World) {
			x.St[its].Held = 0
			x.Tasks[0].Pc, x.Tasks[0].Trace, x.Tasks[0].Stamp = 3, c.trace, c.stamp
		}
		does(t, c.name, w, of(impl.OfferStep, 0), found)
		for _, holder := range []int{1, 2} {
			held := cloneOf(w)
			letBe(&held, holder, offersAt(1, thing(c.trace, 8)))
			refuses(t, c.name+", which is held", held, of(impl.OfferStep, 0))
		}
		other := cloneOf(w)
		letBe(&other, 1, offersAt(1, thing(1+its, 8)))
		if other.St[its].Held != -1 {
			t.Fatal("the wrong stripe is held")
		}
		does(t, c.name+", and the other stripe is held", other, of(impl.OfferStep, 0), found)
	}
	none := offerWorld(0, offersAt(2, thing(2, 9)))
	does(t, "there is none any more", none, of(impl.OfferStep, 0), func(x *impl.World) { x.Tasks[0].Pc = 0 })
	letBe(&none, 1, offersAt(1, thing(2, 8)))
	does(t, "there is none any more, and the lock is held", none, of(impl.OfferStep, 0), func(x *impl.World) { x.Tasks[0].Pc = 0 })
}

// What it is to drop: all of the trail is gone, and what was dropped is remembered.
func dropped(x *impl.World, k int, gone impl.Trail, forgot int) {
	s := wantedMix(gone.Id) % len(x.St)
	x.St[s].L = slices.DeleteFunc(x.St[s].L, func(t impl.Trail) bool { return t.Id == gone.Id })
	x.Used -= impl.TotalOf(gone.Spans)
	x.Deeds = append(x.Deeds, impl.Deed{Op: impl.DeDrop, Task: k, Trace: gone.Id, Stamp: gone.Stamp, N: len(gone.Spans), Forgot: forgot, Now: x.W.Now, Inv: x.Time - 1, Lin: x.Time - 1, Res: x.Time - 1})
	x.Cache = append(x.Cache, impl.Verdict{Trace: gone.Id, Stamp: gone.Stamp})
	letGo(x, k, gone.Id)
}

func letGo(x *impl.World, k, trace int) {
	x.St[wantedMix(trace)%len(x.St)].Held = -1
	x.Tasks[k].Pc, x.Tasks[k].Trace, x.Tasks[k].Stamp = 0, 0, 0
}

func TestOfferStepDrops(t *testing.T) {
	old, other := trail(1, 4, 8, 1, 2), trail(3, 5, 9, 1)
	for k := range 3 {
		w := offerWorld(k, drops(thing(2, 9), 1, 4), old, other)
		does(t, "nothing is remembered yet", w, of(impl.OfferStep, k), func(x *impl.World) {
			x.W = wheelAt(10, impl.Timer{Id: 5, Trace: 3, At: 12})
			dropped(x, k, old, 0)
		})
		w.Cache = []impl.Verdict{{Trace: 50, Stamp: 1, Keep: true}}
		does(t, "there is room for one more", w, of(impl.OfferStep, k), func(x *impl.World) {
			x.W = wheelAt(10, impl.Timer{Id: 5, Trace: 3, At: 12})
			dropped(x, k, old, 0)
		})
		w.Cache = []impl.Verdict{{Trace: 50, Stamp: 1, Keep: true}, {Trace: 51, Stamp: 2, Keep: true}}
		does(t, "one is forgotten", w, of(impl.OfferStep, k), func(x *impl.World) {
			x.W = wheelAt(10, impl.Timer{Id: 5, Trace: 3, At: 12})
			x.Cache = x.Cache[1:]
			dropped(x, k, old, 50)
		})
		w.Cache = []impl.Verdict{{Trace: 1, Stamp: 3, Keep: true}, {Trace: 51, Stamp: 2, Keep: true}}
		does(t, "there was a judgment of an earlier one of this trail", w, of(impl.OfferStep, k), func(x *impl.World) {
			x.W = wheelAt(10, impl.Timer{Id: 5, Trace: 3, At: 12})
			x.Cache = x.Cache[1:]
			dropped(x, k, old, 0)
		})
	}
}

func TestOfferStepDropsWhatIsDueAlready(t *testing.T) {
	old, other := trail(1, 4, 6, 1, 2), trail(3, 5, 9, 1)
	w := offerWorld(0, drops(thing(2, 9), 1, 4), old, other)
	w.Due = []impl.Timer{{Id: 4, Trace: 1, At: 9}}
	w.W = wheelAt(10, impl.Timer{Id: 5, Trace: 3, At: 12}, impl.Timer{Id: 4, Trace: 99, At: 40})
	does(t, "what is Due stays, and a Timer of another trail", w, of(impl.OfferStep, 0), func(x *impl.World) { dropped(x, 0, old, 0) })
	w = offerWorld(0, drops(thing(2, 9), 1, 4), old, other)
	w.W = wheelAt(10, impl.Timer{Id: 5, Trace: 3, At: 12})
	letBe(&w, 4, impl.Task{Op: impl.OpJudge, Trace: 1, Stamp: 4})
	does(t, "somebody is about to judge it", w, of(impl.OfferStep, 0), func(x *impl.World) { dropped(x, 0, old, 0) })
}

func TestOfferStepDropsNothing(t *testing.T) {
	old, other := trail(1, 4, 8, 1, 2), trail(3, 5, 9, 1)
	cases := []struct {
		name   string
		budget int
		trails []impl.Trail
		drops  bool
	}{
		{"it is there, one byte is wanting", 67, []impl.Trail{old, other}, true},
		{"it is there, there is just room", 68, []impl.Trail{old, other}, false},
		{"it is there, there is more room", 100, []impl.Trail{old, other}, false},
		{"it is gone", 51, []impl.Trail{other, trail(5, 6, 9, 1, 2)}, false},
		{"all are gone", 51, nil, false},
		{"it is of another Stamp", 51, []impl.Trail{trail(1, 6, 8, 1, 2), other}, false},
	}
	for _, c := range cases {
		w := offerWorld(0, drops(thing(2, 9), 1, 4), c.trails...)
		w.C.Budget, w.Next = c.budget, 20
		does(t, c.name, w, of(impl.OfferStep, 0), func(x *impl.World) {
			if c.drops {
				x.W = wheelAt(10, impl.Timer{Id: 5, Trace: 3, At: 12})
				dropped(x, 0, old, 0)
			} else {
				letGo(x, 0, 1)
			}
		})
	}
}

func TestOfferStepOfWhoDoesNotOffer(t *testing.T) {
	w := offerWorld(0, offersAt(0, thing(2, 9)), trail(1, 4, 8, 1))
	for pc := range 4 {
		x := impl.Task{Op: impl.OpJudge, Pc: pc, Trace: 1, Stamp: 4}
		if pc == 3 {
			x.Hand = []impl.Item{item(4, 1, 1)}
		}
		judges := cloneOf(w)
		letBe(&judges, 3, x)
		refuses(t, fmt.Sprintf("one who judges at %d", pc), judges, of(impl.OfferStep, 3))
	}
	for _, k := range []int{math.MinInt, -1, 1, 2, 3, 4, 5, math.MaxInt} {
		refuses(t, fmt.Sprintf("the task %d", k), w, of(impl.OfferStep, k))
	}
}

func TestOfferStepOfAWrongWorld(t *testing.T) {
	trails := []impl.Trail{trail(1, 4, 8, 1, 2), trail(3, 5, 9, 1)}
	for pc := range 4 {
		x := offersAt(pc, thing(2, 9))
		if pc == 3 {
			x = drops(thing(2, 9), 1, 4)
		}
		refusesWrongWorlds(t, fmt.Sprintf("OfferStep at %d", pc), offerWorld(0, x, trails...), of(impl.OfferStep, 0))
	}
	refusesWrongWorlds(t, "Offer", offerWorld(0, offersAt(0, thing(2, 9)), trails...), offer(1, thing(1, 1)))
	refusesWrongWorlds(t, "Offer of what does not fit", offerWorld(0, offersAt(0, thing(2, 9)), trails...), offer(1, impl.Span{}))
}

// Promise 17: many offer at once, in whatever order they are picked.
func TestEachStepOfAnOfferLeavesARightWorld(t *testing.T) {
	seed := uint32(17)
	roll := func(n int) int {
		seed = seed*1664525 + 1013904223
		return int(seed>>16) % n
	}
	for round := range 60 {
		c := offerConf()
		c.Stripes, c.Budget, c.Cache, c.Queue = 1+roll(3), 17+roll(80), 1+roll(3), 1+roll(2)
		w := impl.WorldNew(c)
		for i := range 120 {
			next, ok := impl.OfferStep(w, roll(3))
			if roll(3) == 0 {
				next, ok = impl.Offer(w, roll(3), thing(1+roll(7), 1+i))
			}
			if !impl.WorldOk(next) {
				t.Fatalf("round %d, step %d: it is not right: %+v", round, i, next)
			}
			if !ok && differs(w, next) != "" || ok && next.Time != w.Time+1 {
				t.Fatalf("round %d, step %d: %v: %s", round, i, ok, differs(w, next))
			}
			w = next
		}
		if len(w.Deeds) == 0 {
			t.Errorf("round %d: nothing was done", round)
		}
	}
}
