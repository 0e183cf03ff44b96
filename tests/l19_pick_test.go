package tests

import (
	"fmt"
	"math"
	"testing"

	"loop.example/g00488/impl"
)

// Complains unless Pick of k is as the one that is wanted of it, and Able says whether it is true; nil: it is refused.
func picks(t *testing.T, name string, w impl.World, k int, want act) {
	t.Helper()
	given := roomy(w)
	check := watched(given)
	able := impl.Able(given, k)
	check(t, name)
	if want == nil {
		refuses(t, name, w, of(impl.Pick, k))
		if able {
			t.Errorf("%s: it is Able", name)
		}
		return
	}
	next, ok := want(cloneOf(w))
	if !ok || !able {
		t.Errorf("%s: done %v, Able %v", name, ok, able)
	}
	does(t, name, w, of(impl.Pick, k), func(x *impl.World) { *x = next })
}

// A world in which all five are about something, and can go on: 0 offers at 0, 1 at 2, 2 drops at 3, 3 judges at 1, 4 has something in hand. Of three stripes, 1 and 3 belong to the first one, 11 and 21 to the second one, 2 and 5 to the third one.
func busyWorld() impl.World {
	c := judgeConf(allPol)
	c.Stripes = 3
	w := worldOf(c, 10, trail(1, 1, 5, 1), trail(11, 2, 6, 1, 2), trail(2, 3, 7, 1, 2))
	w.Next = 20
	letBe(&w, 0, offersAt(0, thing(3, 9)))
	letBe(&w, 1, offersAt(2, thing(3, 8)))
	letBe(&w, 2, drops(thing(2, 7), 11, 2))
	letBe(&w, 3, judgesAt(1, 5, 8))
	letBe(&w, 4, judgesAt(3, 40, 9, item(9, 40, 1)))
	return w
}

func TestPickOfEachTask(t *testing.T) {
	idle := worldOf(judgeConf(errPol), 10, trail(2, 9, 8, 1))
	due := cloneOf(idle)
	due.Due, due.W = impl.Timers(idle.W), wheelAt(10)
	busy := busyWorld()
	steps := []act{of(impl.OfferStep, 0), of(impl.OfferStep, 1), of(impl.OfferStep, 2), of(impl.JudgeStep, 3), of(impl.JudgeStep, 4)}
	for k := -1; k <= 5; k++ {
		picks(t, fmt.Sprintf("nothing is Due, %d", k), idle, k, nil)
		if k == 3 || k == 4 {
			picks(t, fmt.Sprintf("something is Due, %d", k), due, k, of(impl.Begin, k))
		} else {
			picks(t, fmt.Sprintf("something is Due, %d", k), due, k, nil)
		}
		if k >= 0 && k <= 4 {
			picks(t, fmt.Sprintf("all are about something, %d", k), busy, k, steps[k])
		} else {
			picks(t, fmt.Sprintf("all are about something, %d", k), busy, k, nil)
		}
	}
	for _, k := range []int{math.MinInt, math.MaxInt} {
		picks(t, "one far out", busy, k, nil)
	}
}

// Each place of who offers, and of who judges, with the lock that it wants free and held: whether it is Able, and for whom it waits.
func TestAbleAndWaitsForAtEachPlace(t *testing.T) {
	full := []impl.Item{item(1, 50, 1), item(1, 50, 2)}
	cases := []struct {
		name  string
		k     int
		x     impl.Task
		who   int
		other impl.Task
		queue []impl.Item
		able  bool
		waits int
	}{
		{"offers at 0, free", 0, offersAt(0, thing(2, 9)), 1, offersAt(1, thing(1, 8)), full, true, -1},
		{"offers at 0, held by who offers", 0, offersAt(0, thing(2, 9)), 1, offersAt(1, thing(5, 8)), nil, false, 1},
		{"offers at 0, held by who drops", 0, offersAt(0, thing(2, 9)), 2, drops(thing(1, 8), 2, 3), nil, false, 2},
		{"offers at 0, held by who judges at 1", 1, offersAt(0, thing(2, 9)), 3, judgesAt(1, 5, 8), nil, false, 3},
		{"offers at 0, held by who judges at 2", 2, offersAt(0, thing(2, 9)), 4, judgesAt(2, 5, 8), nil, false, 4},
		{"offers at 1", 0, offersAt(1, thing(2, 9)), 1, offersAt(0, thing(2, 8)), nil, true, -1},
		{"offers at 1, late, with room", 0, offersAt(1, thing(50, 9)), 1, offersAt(1, thing(1, 8)), full[:1], true, -1},
		{"offers at 1, late, without room", 0, offersAt(1, thing(50, 9)), 1, offersAt(1, thing(1, 8)), full, false, -1},
		{"offers at 2, free", 0, offersAt(2, thing(2, 9)), 1, offersAt(1, thing(1, 8)), full, true, -1},
		{"offers at 2, held", 0, offersAt(2, thing(2, 9)), 1, offersAt(1, thing(5, 8)), nil, false, 1},
		{"offers at 2, held by who judges", 0, offersAt(2, thing(1, 9)), 4, judgesAt(2, 5, 8), nil, false, 4},
		{"drops at 3", 0, drops(thing(1, 9), 2, 3), 1, offersAt(0, thing(2, 8)), full, true, -1},
		{"judges at 0, free", 3, judgesAt(0, 2, 3), 4, judgesAt(2, 1, 8), full, true, -1},
		{"judges at 0, held", 3, judgesAt(0, 2, 3), 4, judgesAt(2, 5, 8), nil, false, 4},
		{"judges at 0, held by who offers", 3, judgesAt(0, 2, 3), 1, offersAt(1, thing(2, 8)), nil, false, 1},
		{"judges at 1, free", 4, judgesAt(1, 2, 3), 3, judgesAt(1, 1, 8), full, true, -1},
		{"judges at 1, held", 4, judgesAt(1, 2, 3), 3, judgesAt(2, 1, 8), nil, false, 3},
		{"judges at 2", 4, judgesAt(2, 2, 3), 3, judgesAt(1, 1, 8), full, true, -1},
		{"judges at 3, with room", 4, judgesAt(3, 1, 8, item(8, 1, 1)), 3, judgesAt(2, 1, 9), full[:1], true, -1},
		{"judges at 3, without room", 4, judgesAt(3, 1, 8, item(8, 1, 1)), 3, judgesAt(2, 1, 9), full, false, -1},
		{"offers, about nothing", 0, impl.Task{}, 1, offersAt(1, thing(2, 9)), nil, false, -1},
		{"judges, about nothing", 3, impl.Task{}, 4, judgesAt(2, 2, 3), nil, false, -1},
	}
	for _, c := range cases {
		w := worldOf(judgeConf(allPol), 10, trail(2, 3, 6, 1))
		w.Next, w.Queue, w.Cache = 20, c.queue, []impl.Verdict{{Trace: 50, Stamp: 1, Keep: true}}
		letBe(&w, c.who, c.other)
		if c.x.Op != impl.OpNone {
			letBe(&w, c.k, c.x)
		}
		if !impl.WorldOk(w) {
			t.Fatalf("%s: it is not right: %+v", c.name, w)
		}
		given := roomy(w)
		check := watched(given)
		_, ok := impl.Pick(given, c.k)
		if got := impl.Able(given, c.k); got != c.able || ok != c.able {
			t.Errorf("%s: Able is %v, Pick %v", c.name, got, ok)
		}
		if got := impl.WaitsFor(given, c.k); got != c.waits {
			t.Errorf("%s: WaitsFor is %d, want %d", c.name, got, c.waits)
		}
		want := 0
		if c.waits != -1 {
			want = 1
		}
		if got := impl.ChainOf(given, c.k); got != want {
			t.Errorf("%s: ChainOf is %d, want %d", c.name, got, want)
		}
		check(t, c.name)
	}
	none := worldOf(judgeConf(allPol), 10)
	letBe(&none, 0, offersAt(2, thing(2, 9)))
	letBe(&none, 1, offersAt(1, thing(2, 8)))
	if !impl.Able(none, 0) || impl.WaitsFor(none, 0) != -1 || impl.ChainOf(none, 0) != 0 {
		t.Error("there is no oldest one, and it waits")
	}
}

func TestChainOf(t *testing.T) {
	w := worldOf(judgeConf(allPol), 10, trail(2, 3, 6, 1))
	w.Next = 20
	letBe(&w, 4, judgesAt(2, 1, 8))
	letBe(&w, 3, judgesAt(1, 2, 3))
	letBe(&w, 0, offersAt(0, thing(5, 9)))
	letBe(&w, 1, offersAt(2, thing(1, 9)))
	letBe(&w, 2, offersAt(0, thing(1, 9)))
	if !impl.WorldOk(w) {
		t.Fatalf("it is not right: %+v", w)
	}
	waits, chains := []int{3, 3, 4, 4, -1}, []int{2, 2, 1, 1, 0}
	for k := range 5 {
		if got := impl.WaitsFor(w, k); got != waits[k] {
			t.Errorf("WaitsFor of %d is %d, want %d", k, got, waits[k])
		}
		if got := impl.ChainOf(w, k); got != chains[k] {
			t.Errorf("ChainOf of %d is %d, want %d", k, got, chains[k])
		}
	}
	for _, k := range []int{math.MinInt, -1, 5, math.MaxInt} {
		if impl.WaitsFor(w, k) != -1 || impl.ChainOf(w, k) != 0 {
			t.Errorf("the task %d: %d, %d", k, impl.WaitsFor(w, k), impl.ChainOf(w, k))
		}
	}
	for _, x := range wrongWorlds(w) {
		for k := range 5 {
			if impl.Able(x, k) || impl.WaitsFor(x, k) != -1 || impl.ChainOf(x, k) != 0 {
				t.Errorf("%d of a wrong world: %v, %d, %d", k, impl.Able(x, k), impl.WaitsFor(x, k), impl.ChainOf(x, k))
			}
		}
	}
}

func TestPickOfAWrongWorld(t *testing.T) {
	for k := range 5 {
		refusesWrongWorlds(t, fmt.Sprintf("Pick of %d", k), busyWorld(), of(impl.Pick, k))
	}
	w := busyWorld()
	w.Time = math.MaxInt
	refuses(t, "there is no Time behind this one", w, of(impl.Pick, 0))
}

func TestStuck(t *testing.T) {
	idle := worldOf(judgeConf(allPol), 10, trail(2, 3, 6, 1))
	due := cloneOf(idle)
	due.Due = []impl.Timer{{Id: 3, Trace: 2}}
	// Only here nobody can go on, as the wheel is full.
	full := worldOf(judgeConf(allPol), 10)
	full.Next = 40
	for id := 1; id <= 16; id++ {
		lay(&full.W, impl.Timer{Id: id, Trace: 99, At: 10 + id})
	}
	letBe(&full, 0, offersAt(1, thing(2, 9)))
	letBe(&full, 1, offersAt(0, thing(2, 9)))
	moves := cloneOf(full)
	moves.Queue = []impl.Item{item(1, 50, 1)}
	another := cloneOf(full)
	letBe(&another, 2, offersAt(0, thing(1, 9)))
	judges := cloneOf(full)
	letBe(&judges, 4, judgesAt(3, 50, 1, item(1, 50, 1)))
	begins := cloneOf(full)
	begins.Due = []impl.Timer{{Id: 3, Trace: 2}}
	cases := []struct {
		name string
		w    impl.World
		want bool
	}{
		{"nobody is about anything", idle, false},
		{"nobody is about anything, and something is Due", due, false},
		{"all can go on", busyWorld(), false},
		{"nobody can go on", full, true},
		{"nobody can go on, and something is on its way", moves, false},
		{"just one who offers can go on", another, false},
		{"just one who judges can go on", judges, false},
		{"one that is about nothing could begin", begins, true},
		{"the zero one", impl.World{}, false},
		{"not right, nobody is about anything", impl.World{Tasks: make([]impl.Task, 9)}, false},
		{"not right, somebody is about something", impl.World{Tasks: []impl.Task{{}, {Op: 7}}}, true},
		{"not right, the ninth is about something", impl.World{Tasks: append(make([]impl.Task, 8), impl.Task{Op: 1})}, true},
		{"not right, somebody is, and something is on its way", impl.World{Tasks: []impl.Task{{Op: 1}}, Queue: []impl.Item{{}}}, false},
	}
	for _, c := range cases {
		given := roomy(c.w)
		check := watched(given)
		if got := impl.Stuck(given); got != c.want {
			t.Errorf("%s: Stuck is %v", c.name, got)
		}
		check(t, c.name)
	}
	for i, w := range wrongWorlds(busyWorld()) {
		if got, want := impl.Stuck(w), len(w.Tasks) > 0; got != want {
			t.Errorf("wrong world %d: Stuck is %v", i, got)
		}
	}
	many := impl.World{Tasks: make([]impl.Task, 200000)}
	for i := range many.Tasks {
		many.Tasks[i].Op = 1
	}
	if !impl.Stuck(many) {
		t.Error("very many tasks, none of which is Able, are not stuck")
	}
}

// Promise 19: whatever came to a new world, nobody is stuck; and no chain of those who wait is longer than that to who judges, and from there to the other one.
func TestNobodyIsStuck(t *testing.T) {
	seed := uint32(19)
	roll := func(n int) int {
		seed = seed*1664525 + 1013904223
		return int(seed>>16) % n
	}
	longest := 0
	for round := range 80 {
		c := judgeConf([]impl.Pol{allPol, ratePol, numPol("n", 20)}[round%3])
		c.Stripes, c.Budget, c.Cache, c.Queue, c.Wait = 1+roll(3), 17+roll(60), 1+roll(3), 1+roll(2), 1+roll(4)
		w := impl.WorldNew(c)
		for i := range 140 {
			k := roll(5)
			switch roll(8) {
			case 0:
				next, due := impl.Advance(w.W, 1)
				w.W, w.Due = next, append(w.Due, due...)
			case 1:
				w.Queue = w.Queue[min(len(w.Queue), 1):]
			case 2:
				w, _ = impl.Offer(w, k, thing(1+roll(6), 1+i))
			default:
				w, _ = impl.Pick(w, k)
			}
			if !impl.WorldOk(w) || impl.Stuck(w) {
				t.Fatalf("round %d, step %d: right %v, stuck %v: %+v", round, i, impl.WorldOk(w), impl.Stuck(w), w)
			}
			for k := range 5 {
				longest = max(longest, impl.ChainOf(w, k))
				if impl.WaitsFor(w, k) != -1 && impl.Able(w, k) {
					t.Fatalf("round %d, step %d: %d waits, and is Able: %+v", round, i, k, w)
				}
			}
		}
	}
	if longest != 2 {
		t.Errorf("the longest chain is %d", longest)
	}
}
