package tests

import (
	"fmt"
	"math"
	"testing"

	"loop.example/g00488/impl"
)

func turned(w impl.World) (impl.World, bool) {
	return impl.Turn(w), false
}

// A turn, event by event.
func wantedTurn(w impl.World) impl.World {
	for _, e := range []impl.Event{takeEvent, pickEvent(0), pickEvent(1), pickEvent(2), pickEvent(3), pickEvent(4)} {
		if next, ok := impl.DoEvent(cloneOf(w), e); ok {
			w = next
		}
	}
	return w
}

// Complains unless a turn is just these events, each of which is done.
func turnsBy(t *testing.T, name string, w impl.World, l ...impl.Event) impl.World {
	t.Helper()
	if !impl.WorldOk(w) {
		t.Fatalf("%s: it is not right to begin with: %+v", name, w)
	}
	want := cloneOf(w)
	for _, e := range l {
		next, ok := impl.DoEvent(want, e)
		if !ok {
			t.Fatalf("%s: %+v is refused", name, e)
		}
		want = next
	}
	given := roomy(w)
	check := watched(given)
	got := impl.Turn(given)
	check(t, name)
	apart(t, name, []any{got}, given)
	if d := differs(got, want); d != "" {
		t.Errorf("%s: %s", name, d)
	}
	if got.Time != w.Time+len(l) {
		t.Errorf("%s: it took %d steps", name, got.Time-w.Time)
	}
	return got
}

func TestTurnWhereNothingIsDone(t *testing.T) {
	held := worldOf(judgeConf(errPol), 10, trail(1, 1, 8, 1), trail(2, 2, 9, 1))
	for i, w := range []impl.World{impl.WorldNew(rightConf()), impl.WorldNew(someConf(3)), held} {
		turnsBy(t, fmt.Sprintf("nobody can go on, %d", i), w)
	}
	last := busyWorld()
	last.Time = math.MaxInt
	turnsBy(t, "there is no Time behind this one", last)
	for i, w := range wrongWorlds(busyWorld()) {
		refuses(t, fmt.Sprintf("Turn of the wrong world %d", i), w, turned)
		for _, n := range []int{-1, 0, 1, 2000, 2001} {
			refuses(t, fmt.Sprintf("Calm of the wrong world %d, %d", i, n), w, func(w impl.World) (impl.World, bool) { return impl.Calm(w, n), false })
		}
	}
}

func TestTurnOfWhoIsPicked(t *testing.T) {
	busy := busyWorld()
	if !impl.Able(busy, 1) {
		t.Fatal("1 is not Able")
	}
	turnsBy(t, "all are Able, but 0 takes the lock that 1 wants", busy, pickEvent(0), pickEvent(2), pickEvent(3), pickEvent(4))
	busy.Queue = []impl.Item{item(1, 50, 1)}
	turnsBy(t, "the same, and one goes out", busy, takeEvent, pickEvent(0), pickEvent(2), pickEvent(3), pickEvent(4))
	busy = worldOf(judgeConf(errPol), 10)
	busy.Next = 20
	for k, s := range []impl.Span{thing(5, 1), thing(1, 1), thing(7, 1)} {
		letBe(&busy, k, offersAt(2, s))
	}
	letBe(&busy, 3, judgesAt(0, 2, 8))
	letBe(&busy, 4, judgesAt(3, 40, 9, item(9, 40, 1)))
	turnsBy(t, "all go on", busy, pickEvent(0), pickEvent(1), pickEvent(2), pickEvent(3), pickEvent(4))

	alone := worldOf(judgeConf(errPol), 10)
	alone.Queue = []impl.Item{item(1, 50, 1), item(1, 50, 2)}
	got := turnsBy(t, "one goes out, and nobody is about anything", alone, takeEvent)
	if len(got.Out) != 1 || len(got.Queue) != 1 || got.Queue[0].S.Id != 2 {
		t.Errorf("more than one went out: %+v", got.Out)
	}

	full := judgeWorld(errPol, 3, judgesAt(3, 40, 9, item(9, 40, 1), item(9, 40, 2)))
	full.C.Queue, full.Queue = 1, []impl.Item{item(1, 50, 1)}
	if impl.Able(full, 3) {
		t.Fatal("there is room already")
	}
	got = turnsBy(t, "what is taken makes room for who is picked", full, takeEvent, pickEvent(3))
	if len(got.Queue) != 1 || got.Queue[0].S.Trace != 40 {
		t.Errorf("what is on its way is %+v", got.Queue)
	}

	two := worldOf(judgeConf(errPol), 10)
	letBe(&two, 0, offersAt(0, thing(5, 1)))
	letBe(&two, 1, offersAt(0, thing(2, 1)))
	got = turnsBy(t, "both want one lock: 0 is first", two, pickEvent(0))
	if got.Tasks[0].Pc != 1 || got.Tasks[1].Pc != 0 {
		t.Errorf("the tasks are %+v", got.Tasks)
	}
	turnsBy(t, "0 lets it go, 1 takes it", got, pickEvent(0), pickEvent(1))

	due := worldOf(judgeConf(errPol), 10)
	due.Next, due.Due = 9, []impl.Timer{{Id: 4, Trace: 7, At: 8}}
	got = turnsBy(t, "one is Due: 3 takes it", due, pickEvent(3))
	if got.Tasks[3].Op != impl.OpJudge || got.Tasks[4].Op != impl.OpNone {
		t.Errorf("the tasks are %+v", got.Tasks)
	}
	due.Due = append(due.Due, impl.Timer{Id: 5, Trace: 8, At: 8})
	turnsBy(t, "two are Due", due, pickEvent(3), pickEvent(4))
}

func TestCalmByTurns(t *testing.T) {
	if impl.MaxCalm != 2000 {
		t.Error("MaxCalm")
	}
	for round := range 12 {
		w := impl.Play(impl.WorldNew(someConf(round)), someEvents(uint32(round)+60, 120))
		want := w
		for n := range 30 {
			given := roomy(w)
			check := watched(given)
			got := impl.Calm(given, n)
			check(t, "Calm")
			apart(t, "Calm", []any{got}, given)
			if d := differs(got, want); d != "" {
				t.Fatalf("round %d: Calm of %d: %s", round, n, d)
			}
			if d := differs(impl.Turn(want), wantedTurn(want)); d != "" {
				t.Fatalf("round %d: the turn %d: %s", round, n, d)
			}
			want = wantedTurn(want)
		}
		for range 100 {
			want = wantedTurn(want)
		}
		if d := differs(impl.Calm(w, 2000), want); d != "" || !impl.Quiet(want) {
			t.Errorf("round %d: Calm of MaxCalm: %s", round, d)
		}
		for _, n := range []int{math.MinInt, -1, 2001, 4000, math.MaxInt} {
			if d := differs(impl.Calm(w, n), w); d != "" {
				t.Errorf("round %d: Calm of %d: %s", round, n, d)
			}
		}
	}
}

// So many are due that who judges has something to do for as long as Calm goes on.
func longWorld(due int) impl.World {
	w := worldOf(judgeConf(errPol), 10)
	w.Next = due + 1
	for i := range due {
		w.Due = append(w.Due, impl.Timer{Id: 1 + i, Trace: 1 + i%999, At: 8})
	}
	return w
}

func TestCalmGoesOnToTheEnd(t *testing.T) {
	for _, n := range []int{1, 7, 200} {
		w := longWorld(150)
		got := impl.Calm(w, n)
		for range n {
			w = impl.Turn(w)
		}
		if d := differs(got, w); d != "" || got.Time == 100 || impl.Quiet(got) {
			t.Errorf("Calm of %d: %s", n, d)
		}
	}
	w := longWorld(1010)
	less, all := impl.Calm(w, 1999), impl.Calm(w, impl.MaxCalm)
	if d := differs(impl.Turn(less), all); d != "" || less.Time == all.Time || impl.Quiet(all) {
		t.Errorf("MaxCalm turns are not 1999 and one: %s, %d are Due", d, len(all.Due))
	}
}

func TestQuietAndSettled(t *testing.T) {
	shut := func(w *impl.World) { w.Shut = true }
	cases := []struct {
		name           string
		change         func(w *impl.World)
		quiet, settled bool
	}{
		{"as it is", func(w *impl.World) {}, true, false},
		{"shut", shut, true, true},
		{"a trail is held", func(w *impl.World) { *w = worldOf(judgeConf(errPol), 10, trail(2, 9, 8, 1)) }, true, false},
		{"a trail is held, shut, with its Timer", func(w *impl.World) { *w = worldOf(judgeConf(errPol), 10, trail(2, 9, 8, 1)); w.Shut = true }, false, false},
		{"a trail is held, shut, and Due", func(w *impl.World) {
			*w = worldOf(judgeConf(errPol), 10, trail(2, 9, 8, 1))
			w.Shut, w.Due, w.W = true, impl.Timers(w.W), wheelAt(10)
		}, false, false},
		{"a Timer of nothing", func(w *impl.World) { lay(&w.W, impl.Timer{Id: 1, Trace: 7, At: 12}) }, true, false},
		{"somebody offers", func(w *impl.World) { shut(w); letBe(w, 0, offersAt(0, thing(5, 1))) }, false, false},
		{"the last one offers", func(w *impl.World) { shut(w); letBe(w, 2, offersAt(2, thing(5, 1))) }, false, false},
		{"somebody judges", func(w *impl.World) { shut(w); letBe(w, 3, judgesAt(0, 5, 1)) }, false, false},
		{"somebody has something in hand", func(w *impl.World) { shut(w); letBe(w, 4, judgesAt(3, 5, 1, item(1, 5, 1))) }, false, false},
		{"one is Due", func(w *impl.World) { shut(w); w.Due = []impl.Timer{{Id: 1, Trace: 7, At: 12}} }, false, false},
		{"one is on its way", func(w *impl.World) { shut(w); w.Queue = []impl.Item{item(1, 50, 1)} }, false, false},
		{"one went out", func(w *impl.World) { shut(w); w.Out = []impl.Item{item(1, 50, 1)} }, true, true},
		{"one is remembered", func(w *impl.World) { shut(w); w.Cache = verdictsOf(7) }, true, true},
		{"it is not right: Time", func(w *impl.World) { shut(w); w.Time = -1 }, false, false},
		{"it is not right: Used", func(w *impl.World) { shut(w); w.Used = 1 }, false, false},
		{"it is not right: no tasks", func(w *impl.World) { shut(w); w.Tasks = nil }, false, false},
		{"nothing", func(w *impl.World) { *w = impl.World{Shut: true} }, false, false},
	}
	for _, c := range cases {
		w := worldOf(judgeConf(errPol), 10)
		w.Next = 20
		c.change(&w)
		w = roomy(w)
		check := watched(w)
		if quiet, settled := impl.Quiet(w), impl.Settled(w); quiet != c.quiet || settled != c.settled {
			t.Errorf("%s: Quiet %v, Settled %v", c.name, quiet, settled)
		}
		check(t, c.name)
	}
}

func TestBound(t *testing.T) {
	hand := []impl.Item{item(1, 5, 1), item(1, 5, 2)}
	cases := []struct {
		name string
		w    impl.World
		want int
	}{
		{"nothing", impl.World{}, 20},
		{"a new world", impl.WorldNew(rightConf()), 20},
		{"held", impl.World{St: stripesOf(3, trail(1, 5, 8, 1), trail(11, 6, 9, 1, 2))}, 26},
		{"in hand", impl.World{Tasks: []impl.Task{{Hand: hand}}}, 24},
		{"in two hands", impl.World{Tasks: []impl.Task{{Hand: hand}, {Hand: hand[:1]}}}, 26},
		{"on their way", impl.World{Queue: hand}, 24},
		{"went out", impl.World{Out: hand}, 20},
		{"tasks", impl.World{Tasks: []impl.Task{{Op: impl.OpOffer}, {}, {Op: impl.OpJudge}, {Op: 9}}}, 38},
		{"somebody with something in hand", impl.World{Tasks: []impl.Task{{Op: impl.OpJudge, Hand: hand}}}, 30},
		{"Due", impl.World{Due: []impl.Timer{timer(1, 3), timer(1, 3)}}, 32},
		{"Timers", impl.World{W: wheelAt(10, timer(1, 12), timer(2, 30), timer(3, 300))}, 38},
		{"a trail with its Timer", worldOf(judgeConf(errPol), 10, trail(2, 9, 8, 1, 2)), 30},
		{"everything", fullWorld(), 20 + 2*(4+1+2) + 6*(4+2+3)},
		{"a busy world", busyWorld(), 20 + 2*(5+1) + 6*(5+3)},
		{"many are Due", longWorld(330), 2000},
	}
	for _, c := range cases {
		w := roomy(c.w)
		check := watched(w)
		if got := impl.Bound(w); got != c.want {
			t.Errorf("%s: %d, not %d", c.name, got, c.want)
		}
		check(t, c.name)
	}
}

// Complains unless it is Settled within Bound turns, and stays so.
func settles(t *testing.T, name string, w impl.World) {
	t.Helper()
	if !impl.WorldOk(w) || !w.Shut {
		t.Fatalf("%s: it is not right, or not shut", name)
	}
	n := impl.Bound(w)
	if n > impl.MaxCalm {
		t.Fatalf("%s: the Bound is %d", name, n)
	}
	got := impl.Calm(w, n)
	if !impl.Settled(got) || !impl.WorldOk(got) {
		t.Errorf("%s: it is not Settled in %d turns: %+v", name, n, got)
	}
	if d := differs(impl.Turn(got), got); d != "" {
		t.Errorf("%s: there is more to do: %s", name, d)
	}
}

// Promise 26, whatever came ahead of the shut, and behind it.
func TestWhatIsShutIsSettled(t *testing.T) {
	busy, held := 0, 0
	for round := range 120 {
		c := someConf(round)
		if round%4 == 0 {
			c.Budget, c.Wait = 190, 50
		}
		l := someEvents(uint32(round)*3+8000, impl.MaxPlay)
		w := impl.Play(impl.WorldNew(c), l[:round])
		if !w.Shut {
			w, _ = impl.DoEvent(w, shutEvent)
		}
		name := fmt.Sprintf("round %d", round)
		settles(t, name, w)
		busy += impl.Busy(w)
		held += len(impl.OpenTrails(w.St))
		after := impl.Calm(w, impl.Bound(w))
		if !impl.Linear(after) || !impl.Whole(after) || !impl.Balanced(impl.CountOf(after)) || impl.Early(after) {
			t.Errorf("%s: what is settled is not Linear, Whole, Balanced, or it is Early", name)
		}
		if n := impl.CountOf(after); n.Came != n.Went+n.Dropped {
			t.Errorf("%s: what came neither went nor was dropped: %+v", name, n)
		}
		settles(t, name+", with more behind", impl.Play(w, l[round:]))
	}
	if busy < 100 || held < 60 {
		t.Errorf("too little was to be done: %d tasks, %d trails", busy, held)
	}
}

func TestOtherWorldsThatAreShutAreSettled(t *testing.T) {
	for name, w := range map[string]impl.World{"full": fullWorld(), "busy": busyWorld(), "linear": linearWorld(), "long": longWorld(330), "new": impl.WorldNew(rightConf())} {
		next, ok := impl.DoEvent(w, shutEvent)
		if !ok {
			t.Fatalf("%s: it is not shut", name)
		}
		settles(t, name, next)
	}
}
