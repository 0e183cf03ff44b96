package tests

import (
	"fmt"
	"math"
	"slices"
	"testing"

	"loop.example/g00488/impl"
)

func event(e impl.Event) act {
	return func(w impl.World) (impl.World, bool) { return impl.DoEvent(w, e) }
}

func offerEvent(k int, s impl.Span) impl.Event {
	return impl.Event{Kind: impl.EvOffer, K: k, S: s}
}

func pickEvent(k int) impl.Event {
	return impl.Event{Kind: impl.EvPick, K: k}
}

func tickEvent(k int) impl.Event {
	return impl.Event{Kind: impl.EvTick, K: k}
}

var (
	takeEvent = impl.Event{Kind: impl.EvTake}
	shutEvent = impl.Event{Kind: impl.EvShut}
)

// So many events of all kinds, some of which will be refused.
func someEvents(seed uint32, many int) []impl.Event {
	roll := func(n int) int {
		seed = seed*1664525 + 1013904223
		return int(seed>>16) % n
	}
	out := []impl.Event{}
	for i := range many {
		e := pickEvent(roll(6))
		switch roll(12) {
		case 0, 1, 2:
			e = offerEvent(roll(4), thing(1+roll(6), 1+i))
			e.S.Err = roll(3) == 0
			if roll(6) == 0 {
				e.S = fullSpan()
			}
		case 3:
			e = tickEvent(roll(4))
		case 4, 5:
			e = takeEvent
		case 6:
			if roll(10) == 0 {
				e = shutEvent
			}
			if roll(10) == 0 {
				e.Kind = roll(9) - 1
			}
		}
		out = append(out, e)
	}
	return out
}

// Set-ups of many kinds, under which many things come about.
func someConf(n int) impl.Conf {
	rules := []impl.Pol{allPol, errPol, ratePol, numPol("n", 40), orPol(errPol, ratePol), notPol(errPol)}
	return impl.Conf{Stripes: 1 + n%3, Wait: 1 + n%5, Budget: 17 + n*7%120, Cache: 1 + n%4, Queue: 1 + n%3, Rate: n % 3, Burst: n % 7, Rule: rules[n%len(rules)]}
}

func TestEventConstants(t *testing.T) {
	kinds := []int{impl.EvOffer, impl.EvPick, impl.EvTick, impl.EvTake, impl.EvShut}
	if !slices.Equal(kinds, []int{1, 2, 3, 4, 5}) || impl.MaxPlay != 150 {
		t.Errorf("the kinds are %v, MaxPlay is %d", kinds, impl.MaxPlay)
	}
}

func TestEventsOfOtherKinds(t *testing.T) {
	w := busyWorld()
	w.Queue = []impl.Item{item(1, 50, 1)}
	for _, kind := range []int{math.MinInt, -1, 0, 6, 7, math.MaxInt} {
		for k := -1; k <= 5; k++ {
			refuses(t, fmt.Sprintf("the kind %d, of %d", kind, k), w, event(impl.Event{Kind: kind, K: k, S: thing(1, 1)}))
		}
	}
}

func TestEventsThatOfferAndPick(t *testing.T) {
	w := worldOf(judgeConf(allPol), 10, trail(2, 3, 6, 1))
	w.Due, w.W = impl.Timers(w.W), wheelAt(10)
	letBe(&w, 1, offersAt(0, thing(5, 9)))
	held := cloneOf(w)
	letBe(&held, 2, offersAt(1, thing(5, 8)))
	for k := -1; k <= 5; k++ {
		for _, x := range []impl.World{w, held, busyWorld(), impl.WorldNew(judgeConf(allPol))} {
			for _, s := range []impl.Span{thing(1, 1), fullSpan(), {}} {
				name := fmt.Sprintf("EvOffer of %d", k)
				if next, ok := impl.Offer(cloneOf(x), k, s); ok {
					does(t, name, x, event(offerEvent(k, s)), func(y *impl.World) { *y = next })
				} else {
					refuses(t, name, x, event(offerEvent(k, s)))
				}
				e := pickEvent(k)
				e.S = s
				name = fmt.Sprintf("EvPick of %d", k)
				if next, ok := impl.Pick(cloneOf(x), k); ok {
					does(t, name, x, event(e), func(y *impl.World) { *y = next })
				} else {
					refuses(t, name, x, event(e))
				}
			}
		}
	}
	given := roomy(rightSpan())
	check := watched(given)
	got, ok := impl.DoEvent(impl.WorldNew(judgeConf(allPol)), offerEvent(0, given))
	check(t, "EvOffer")
	apart(t, "EvOffer", []any{got}, given)
	if !ok || got.Time != 1 || len(got.Deeds) != 1 {
		t.Errorf("EvOffer: %v, %+v", ok, got)
	}
}

func TestEventsOfTime(t *testing.T) {
	for _, now := range []int{0, 5, 60, impl.MaxTime - 21, impl.MaxTime - 20, impl.MaxTime - 19, impl.MaxTime - 1, impl.MaxTime} {
		w := worldOf(judgeConf(allPol), now)
		for _, k := range []int{math.MinInt, -1, 0, 1, 2, 19, 20, 21, 200, math.MaxInt} {
			name := fmt.Sprintf("EvTick of %d at %d", k, now)
			e := tickEvent(k)
			e.S = impl.Span{Trace: -1}
			if k < 1 || k > 20 || now+k > impl.MaxTime {
				refuses(t, name, w, event(e))
				continue
			}
			does(t, name, w, event(e), func(x *impl.World) { x.W.Now = now + k })
		}
	}
}

func TestEventsOfTimeWithTimers(t *testing.T) {
	timers := []impl.Timer{{Id: 1, Trace: 60, At: 12}, {Id: 2, Trace: 61, At: 11}, {Id: 3, Trace: 62, At: 12}, {Id: 4, Trace: 63, At: 25}, {Id: 5, Trace: 64, At: 16}, {Id: 6, Trace: 65, At: 200}}
	first := []impl.Timer{{Id: 9, Trace: 3, At: 4}}
	due := []impl.Timer{timers[1], timers[0], timers[2], timers[4], timers[3]}
	for _, shut := range []bool{false, true} {
		for k := 1; k <= 20; k++ {
			w := worldOf(judgeConf(allPol), 10)
			w.Next, w.Due, w.W, w.Shut = 20, first, wheelAt(10, timers...), shut
			if shut {
				w.W = wheelAt(10)
			}
			does(t, fmt.Sprintf("EvTick of %d, shut: %v", k, shut), w, event(tickEvent(k)), func(x *impl.World) {
				next, left := wheelAt(10+k), []impl.Timer{}
				for _, y := range timers {
					if y.At > 10+k {
						left = append(left, y)
					}
				}
				if !shut {
					for _, y := range left {
						lay(&next, y)
					}
					x.Due = slices.Concat(first, due[:len(timers)-len(left)])
				}
				x.W = next
			})
		}
	}
}

func TestEventsThatTake(t *testing.T) {
	way := []impl.Item{item(2, 50, 1), item(2, 50, 2), item(3, 51, 1)}
	for n := range 4 {
		for out := range 3 {
			w := busyWorld()
			w.C.Queue, w.Queue, w.Out = 3, way[:n], []impl.Item{item(1, 52, 1), item(1, 52, 2)}[:out]
			name := fmt.Sprintf("EvTake of %d, %d went out", n, out)
			e := impl.Event{Kind: impl.EvTake, K: -9, S: impl.Span{Id: -1}}
			if n == 0 {
				refuses(t, name, w, event(e))
				continue
			}
			does(t, name, w, event(e), func(x *impl.World) {
				x.Out = append(x.Out, way[0])
				x.Queue = way[1:n]
			})
		}
	}
}

func TestEventsThatShut(t *testing.T) {
	near, far, rest := impl.Timer{Id: 1, Trace: 60, At: 12}, impl.Timer{Id: 2, Trace: 61, At: 25}, impl.Timer{Id: 3, Trace: 62, At: 200}
	earlier := impl.Timer{Id: 4, Trace: 63, At: 11}
	cases := []struct {
		name         string
		timers, want []impl.Timer
	}{
		{"no Timers", nil, nil},
		{"near", []impl.Timer{near}, []impl.Timer{near}},
		{"far", []impl.Timer{far}, []impl.Timer{far}},
		{"in the Rest", []impl.Timer{rest}, []impl.Timer{rest}},
		{"as they stand", []impl.Timer{rest, far, near, earlier}, []impl.Timer{earlier, near, far, rest}},
	}
	due := []impl.Timer{{Id: 1, Trace: 1, At: 8}, {Id: 2, Trace: 11, At: 9}, {Id: 3, Trace: 2, At: 9}}
	for _, c := range cases {
		w := busyWorld()
		w.W, w.Due = wheelAt(10, c.timers...), due
		got := does(t, c.name, w, event(impl.Event{Kind: impl.EvShut, K: 77, S: impl.Span{Id: -1}}), func(x *impl.World) {
			x.Shut = true
			x.Due = slices.Concat(due, c.want)
			x.W = wheelAt(10)
			x.Deeds = append(x.Deeds, impl.Deed{Op: impl.DeShut, Now: 10, Inv: 100, Lin: 100, Res: 100})
		})
		refuses(t, c.name+", again", got, event(shutEvent))
	}
	held := worldOf(judgeConf(allPol), 10, trail(1, 1, 8, 1), trail(2, 2, 9, 1))
	does(t, "nothing was Due", held, event(shutEvent), func(x *impl.World) {
		x.Shut = true
		x.Due, x.W = []impl.Timer{{Id: 1, Trace: 1, At: 11}, {Id: 2, Trace: 2, At: 12}}, wheelAt(10)
		x.Deeds = []impl.Deed{{Op: impl.DeShut, Now: 10, Inv: 100, Lin: 100, Res: 100}}
	})
}

// Promise 20.
func TestAnEventThatIsRefusedChangesNothing(t *testing.T) {
	done, refused := map[int]int{}, map[int]int{}
	for round := range 60 {
		w := impl.WorldNew(someConf(round))
		for i, e := range someEvents(uint32(round), 150) {
			given := cloneOf(w)
			next, ok := impl.DoEvent(w, e)
			name := fmt.Sprintf("round %d, event %d, %+v", round, i, e)
			if d := differs(w, given); d != "" {
				t.Fatalf("%s: it was changed: %s", name, d)
			}
			if !impl.WorldOk(next) {
				t.Fatalf("%s: what comes of it is not right: %+v", name, next)
			}
			if ok {
				done[e.Kind]++
				if next.Time != w.Time+1 {
					t.Fatalf("%s: Time is %d, and was %d", name, next.Time, w.Time)
				}
			} else {
				refused[e.Kind]++
				if d := differs(w, next); d != "" {
					t.Fatalf("%s: it is refused: %s", name, d)
				}
			}
			if i%10 == 0 {
				apart(t, name, []any{next}, w, e)
			}
			w = next
		}
	}
	for kind := 1; kind <= 5; kind++ {
		if done[kind] < 5 || kind < 5 && refused[kind] < 5 {
			t.Errorf("of the kind %d too little came: %d, and %d were refused", kind, done[kind], refused[kind])
		}
	}
}

func TestEventsOfAWrongWorld(t *testing.T) {
	w := busyWorld()
	w.Queue = []impl.Item{item(1, 50, 1)}
	w.Tasks[0], w.Deeds[0] = impl.Task{}, impl.Deed{Op: impl.DeShut}
	for _, e := range []impl.Event{offerEvent(0, thing(1, 1)), offerEvent(0, impl.Span{}), pickEvent(1), pickEvent(4), tickEvent(1), takeEvent, shutEvent} {
		refusesWrongWorlds(t, fmt.Sprintf("%+v", e), w, event(e))
		last := cloneOf(w)
		last.Time = math.MaxInt
		refuses(t, fmt.Sprintf("%+v, and there is no Time behind this one", e), last, event(e))
		for i, x := range wrongWorlds(w) {
			if d := differs(impl.Play(x, []impl.Event{e, e}), x); d != "" {
				t.Errorf("Play of the wrong world %d: %s", i, d)
			}
		}
	}
}

func TestPlay(t *testing.T) {
	for round := range 20 {
		l := someEvents(uint32(round)+99, 151)
		// This one could always be done, so it is seen whether it is.
		l[150] = tickEvent(1)
		w := impl.WorldNew(someConf(round))
		steps := []impl.World{w}
		for _, e := range l {
			next, _ := impl.DoEvent(steps[len(steps)-1], e)
			steps = append(steps, next)
		}
		for _, n := range []int{0, 1, 2, 75, 149, 150} {
			given, events := roomy(w), roomy(l[:n])
			check := watched(given, events)
			got := impl.Play(given, events)
			check(t, "Play")
			if n < 80 {
				apart(t, "Play", []any{got}, given, events)
			}
			if d := differs(got, steps[n]); d != "" {
				t.Errorf("round %d: Play of %d: %s", round, n, d)
			}
			if d := differs(impl.Play(got, l[n:150]), steps[150]); d != "" {
				t.Errorf("round %d: Play in two parts, of %d: %s", round, n, d)
			}
		}
		if d := differs(impl.Play(w, l), steps[150]); d != "" {
			t.Errorf("round %d: Play of 151: %s", round, d)
		}
		if differs(steps[150], steps[151]) == "" {
			t.Errorf("round %d: the last one changes nothing", round)
		}
	}
	many := slices.Repeat([]impl.Event{tickEvent(1)}, 200)
	for _, n := range []int{149, 150, 151, 200} {
		if got := impl.Play(impl.WorldNew(someConf(1)), many[:n]); got.Time != min(n, 150) || impl.TimeOf(got) != min(n, 150) {
			t.Errorf("Play of %d ticks: %d, %d", n, got.Time, impl.TimeOf(got))
		}
	}
	if d := differs(impl.Play(impl.World{}, many), impl.World{}); d != "" {
		t.Errorf("Play of a world of nothing: %s", d)
	}
	w := roomy(busyWorld())
	apart(t, "Play of no events", []any{impl.Play(w, nil)}, w)
}
