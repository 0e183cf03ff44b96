package tests

import (
	"slices"
	"testing"

	"loop.example/g00488/impl"
)

func steps(inv, lin, res int) impl.Deed {
	return impl.Deed{Op: impl.DeShut, Inv: inv, Lin: lin, Res: res}
}

// A world that came of a play: 1 is judged and kept, one of its two things on its way and one in hand, 4 was judged and is not kept, 2 and 5 are held, 6 was dropped for 5, somebody is about an offer.
func linearWorld() impl.World {
	c := impl.Conf{Stripes: 2, Wait: 3, Budget: 60, Cache: 3, Queue: 1, Rate: 1, Burst: 5, Rule: errPol}
	bad := thing(1, 2)
	bad.Err = true
	l := []impl.Event{}
	held := func(k int, s impl.Span) { l = append(l, offerEvent(k, s), pickEvent(k), pickEvent(k)) }
	held(0, thing(1, 1))
	held(1, bad)
	held(0, thing(4, 1))
	l = append(l, tickEvent(3))
	for range 4 {
		l = append(l, pickEvent(3), pickEvent(4))
	}
	l = append(l, pickEvent(4), pickEvent(4), pickEvent(4), pickEvent(3))
	held(0, thing(6, 1))
	held(1, thing(2, 1))
	held(2, thing(2, 2))
	held(0, thing(5, 1))
	for range 4 {
		l = append(l, pickEvent(0))
	}
	l = append(l, offerEvent(2, thing(7, 1)))
	return impl.Play(impl.WorldNew(c), l)
}

func TestTheLinearWorldIsFull(t *testing.T) {
	w := linearWorld()
	if !impl.WorldOk(w) || len(impl.OpenTrails(w.St)) != 2 || len(w.Cache) != 3 || len(w.Queue) != 1 || impl.Busy(w) != 2 || dropsIn(w.Deeds) != 1 || len(impl.Order(w.Deeds)) >= len(w.Deeds) {
		t.Fatalf("it is not as full as it should be: %+v", w)
	}
}

func dropsIn(l []impl.Deed) int {
	n := 0
	for _, d := range l {
		if d.Op == impl.DeDrop {
			n++
		}
	}
	return n
}

func TestInTime(t *testing.T) {
	cases := []struct {
		name string
		l    []impl.Deed
		want bool
	}{
		{"nothing", nil, true},
		{"one", []impl.Deed{steps(3, 4, 5)}, true},
		{"one that is done before it was begun", []impl.Deed{steps(5, 4, 3)}, true},
		{"ahead, with a Lin that is less", []impl.Deed{steps(1, 2, 3), steps(4, 5, 6)}, true},
		{"ahead, with a Lin that is one less", []impl.Deed{steps(1, 4, 3), steps(4, 5, 6)}, true},
		{"ahead, with the same Lin", []impl.Deed{steps(1, 5, 3), steps(4, 5, 6)}, false},
		{"ahead, with a Lin that is greater", []impl.Deed{steps(1, 6, 3), steps(4, 5, 6)}, false},
		{"done just as the other was begun, with a Lin that is greater", []impl.Deed{steps(1, 6, 4), steps(4, 5, 6)}, true},
		{"done just as the other was begun, with the same Lin", []impl.Deed{steps(1, 5, 4), steps(4, 5, 6)}, true},
		{"the first one did not take place", []impl.Deed{steps(1, -1, 3), steps(4, -5, 6)}, true},
		{"the second one did not take place", []impl.Deed{steps(1, 2, 3), steps(4, -1, -1)}, true},
		{"neither took place", []impl.Deed{steps(1, -1, 3), steps(4, -1, 6)}, true},
		{"the first one is not done", []impl.Deed{steps(1, 9, -1), steps(4, 5, 6)}, true},
		{"the second one is not done", []impl.Deed{steps(1, 2, 3), steps(4, 5, -1)}, true},
		{"the second one is not done, the first Lin is greater", []impl.Deed{steps(1, 6, 3), steps(4, 5, -1)}, false},
		{"neither is done", []impl.Deed{steps(1, 6, -1), steps(4, 5, -1)}, true},
		{"among others", []impl.Deed{steps(0, 0, 9), steps(1, 6, 3), steps(2, 4, 8), steps(4, 5, 6)}, false},
		{"three, one behind the other", []impl.Deed{steps(1, 2, 3), steps(4, 5, 6), steps(7, 8, 9)}, true},
		{"three, of which the outer two are turned round", []impl.Deed{steps(1, 9, 3), steps(2, 3, 9), steps(7, 8, 9)}, false},
	}
	for _, c := range cases {
		for _, turned := range []bool{false, true} {
			l := roomy(c.l)
			if turned {
				slices.Reverse(l)
			}
			check := watched(l)
			if got := impl.InTime(l); got != c.want {
				t.Errorf("%s, turned round %v: %v", c.name, turned, got)
			}
			check(t, c.name)
		}
	}
}

func TestReplayedOfWorlds(t *testing.T) {
	for _, c := range []impl.Conf{rightConf(), someConf(1), someConf(2), {}, {Wait: -1}} {
		w := impl.WorldNew(c)
		if m, n := impl.Replayed(w); n != 0 || differs(m, impl.ModelNew(c)) != "" {
			t.Errorf("a new world: %d, %+v", n, m)
		}
	}
	for round := range 60 {
		w := roomy(impl.Play(impl.WorldNew(someConf(round)), someEvents(uint32(round)+31, 150)))
		check := watched(w)
		m, n := impl.Replayed(w)
		check(t, "Replayed")
		apart(t, "Replayed", []any{m}, w)
		if n != len(impl.Order(w.Deeds)) || !impl.ModelOk(m) {
			t.Fatalf("round %d: %d of %d", round, n, len(impl.Order(w.Deeds)))
		}
		want := impl.Model{C: w.C, Shut: w.Shut, Open: impl.OpenTrails(w.St), Cache: w.Cache, B: w.B, Used: w.Used}
		if d := differs(m, want); d != "" {
			t.Fatalf("round %d: %s", round, d)
		}
	}
}

// Which of the deeds is not so is known by how many were, and by what came of those ahead of it.
func TestReplayedUpToWhatIsNotSo(t *testing.T) {
	right := linearWorld()
	order := impl.Order(right.Deeds)
	models := []impl.Model{impl.ModelNew(right.C)}
	for i, place := range order {
		next, ok := impl.Apply(models[i], right.Deeds[place])
		if !ok {
			t.Fatalf("%d is not so", place)
		}
		models = append(models, next)
	}
	for i, place := range order {
		w := cloneOf(right)
		w.Deeds[place].Took = -1
		m, n := impl.Replayed(w)
		if n != i || differs(m, models[i]) != "" {
			t.Errorf("the %d-th is not so: %d, %+v", i, n, m)
		}
		if impl.Linear(w) {
			t.Errorf("the %d-th is not so: Linear", i)
		}
	}
	w := cloneOf(right)
	w.C.Wait = 0
	if m, n := impl.Replayed(w); n != 0 || differs(m, impl.Model{}) != "" || impl.Linear(w) {
		t.Errorf("a conf that is not right: %d, %+v", n, m)
	}
	w = cloneOf(right)
	slices.Reverse(w.Deeds)
	if m, n := impl.Replayed(w); n != len(order) || differs(m, models[n]) != "" {
		t.Errorf("turned round: %d", n)
	}
}

func TestAgreesWithOneThingNotAlike(t *testing.T) {
	w := linearWorld()
	right, n := impl.Replayed(w)
	if n != len(impl.Order(w.Deeds)) || !impl.Agrees(w, right) {
		t.Fatalf("it does not agree as it is: %d, %+v", n, right)
	}
	changes := map[string]func(m *impl.Model){
		"Stripes":                  func(m *impl.Model) { m.C.Stripes = 3 },
		"Wait":                     func(m *impl.Model) { m.C.Wait++ },
		"Budget":                   func(m *impl.Model) { m.C.Budget++ },
		"Cache":                    func(m *impl.Model) { m.C.Cache++ },
		"Queue":                    func(m *impl.Model) { m.C.Queue++ },
		"the conf's Rate":          func(m *impl.Model) { m.C.Rate++ },
		"the conf's Burst":         func(m *impl.Model) { m.C.Burst++ },
		"the rule":                 func(m *impl.Model) { m.C.Rule = orPol(errPol) },
		"Shut":                     func(m *impl.Model) { m.Shut = !m.Shut },
		"Rate":                     func(m *impl.Model) { m.B.Rate++ },
		"Burst":                    func(m *impl.Model) { m.B.Burst++ },
		"Tokens":                   func(m *impl.Model) { m.B.Tokens-- },
		"At":                       func(m *impl.Model) { m.B.At++ },
		"Used, more":               func(m *impl.Model) { m.Used++ },
		"Used, less":               func(m *impl.Model) { m.Used-- },
		"remembered, turned round": func(m *impl.Model) { m.Cache[0], m.Cache[1] = m.Cache[1], m.Cache[0] },
		"remembered, one more":     func(m *impl.Model) { m.Cache = append(m.Cache, verdict(90, 9)) },
		"remembered, one less":     func(m *impl.Model) { m.Cache = m.Cache[1:] },
		"remembered, kept":         func(m *impl.Model) { m.Cache[1].Keep = !m.Cache[1].Keep },
		"remembered, Stamp":        func(m *impl.Model) { m.Cache[1].Stamp++ },
		"nothing remembered":       func(m *impl.Model) { m.Cache = nil },
		"a trail more":             func(m *impl.Model) { m.Open = append(m.Open, trail(99, 90, 1, 1)) },
		"a trail less":             func(m *impl.Model) { m.Open = m.Open[:1] },
		"trails turned round":      func(m *impl.Model) { slices.Reverse(m.Open) },
		"no trails":                func(m *impl.Model) { m.Open = nil },
		"a trail's Id":             func(m *impl.Model) { m.Open[1].Id++ },
		"a trail's Stamp":          func(m *impl.Model) { m.Open[1].Stamp++ },
		"a trail's First":          func(m *impl.Model) { m.Open[1].First++ },
		"a thing more":             func(m *impl.Model) { m.Open[0].Spans = append(m.Open[0].Spans, thing(2, 9)) },
		"a thing less":             func(m *impl.Model) { m.Open[0].Spans = m.Open[0].Spans[1:] },
		"another thing":            func(m *impl.Model) { m.Open[0].Spans[1].End++ },
		"things turned round":      func(m *impl.Model) { slices.Reverse(m.Open[0].Spans) },
		"what is said of a thing":  func(m *impl.Model) { m.Open[0].Spans[1].Attrs[0].N++ },
		"all":                      func(m *impl.Model) { *m = impl.Model{} },
	}
	for name, change := range changes {
		m := cloneOf(right)
		change(&m)
		given, model := roomy(w), roomy(m)
		check := watched(given, model)
		if impl.Agrees(given, model) {
			t.Errorf("%s: it agrees", name)
		}
		check(t, name)
		x := cloneOf(w)
		x.C, x.Shut, x.B, x.Used, x.Cache = m.C, m.Shut, m.B, m.Used, m.Cache
		x.St = []impl.Stripe{{L: m.Open}}
		if impl.Agrees(x, right) != (name == "trails turned round") {
			t.Errorf("%s of the world: %v", name, impl.Agrees(x, right))
		}
		if impl.Agrees(x, m) != (name != "trails turned round") {
			t.Errorf("%s of both: %v", name, impl.Agrees(x, m))
		}
	}
	if !impl.Agrees(impl.World{}, impl.Model{}) || impl.Agrees(w, impl.Model{}) || impl.Agrees(impl.World{}, right) {
		t.Error("worlds and models of nothing")
	}
	other := cloneOf(w)
	other.Time, other.Next, other.Deeds, other.Tasks, other.Due, other.Out, other.Queue, other.RuleHeld, other.W = 7, 7, nil, nil, nil, nil, nil, 7, impl.Wheel{}
	if !impl.Agrees(other, right) {
		t.Error("what is not told is looked at")
	}
}

func TestLinearOfWorlds(t *testing.T) {
	for n := range 12 {
		if w := roomy(impl.WorldNew(someConf(n))); !impl.Linear(w) {
			t.Errorf("a new world of the conf %d", n)
		}
	}
	right := roomy(linearWorld())
	check := watched(right)
	if !impl.Linear(right) {
		t.Fatal("it is not as it is")
	}
	check(t, "Linear")
	for i, w := range wrongWorlds(linearWorld()) {
		if impl.Linear(w) {
			t.Errorf("the wrong world %d", i)
		}
	}
	if impl.Linear(impl.World{}) {
		t.Error("a world of nothing")
	}
}

// A right deed takes place when it was begun at the earliest, and is done then at the earliest, so in a right world all are in time: what is not in time is not right either.
func TestLinearNeedsDeedsInTime(t *testing.T) {
	w := impl.WorldNew(judgeConf(errPol))
	w.Deeds = []impl.Deed{
		{Op: impl.DeOffer, S: impl.Span{}, Code: impl.CoBad, Inv: 1, Lin: 2, Res: 3},
		{Op: impl.DeOffer, S: impl.Span{}, Code: impl.CoBad, Inv: 4, Lin: 5, Res: 6},
	}
	w.Time = 9
	if !impl.Linear(w) {
		t.Fatal("in time")
	}
	w.Deeds[0].Lin = 5
	if impl.Linear(w) || impl.InTime(w.Deeds) {
		t.Error("not in time")
	}
}

func TestLinearWithDeedsToldOtherwise(t *testing.T) {
	right := linearWorld()
	changes := map[string]func(d *impl.Deed){
		"Stamp":  func(d *impl.Deed) { d.Stamp += 7 },
		"N":      func(d *impl.Deed) { d.N++ },
		"Keep":   func(d *impl.Deed) { d.Keep = !d.Keep },
		"Took":   func(d *impl.Deed) { d.Took++ },
		"Forgot": func(d *impl.Deed) { d.Forgot = 77 },
		"Void":   func(d *impl.Deed) { d.Void = !d.Void },
		"Now":    func(d *impl.Deed) { d.Now += 5 },
		"Trace":  func(d *impl.Deed) { d.Trace = 88 },
		"S":      func(d *impl.Deed) { d.S.Id = 500 },
		"Code":   func(d *impl.Deed) { d.Code = impl.CoShut },
	}
	told := map[int][]string{
		impl.DeOffer: {"Stamp", "S", "Code"},
		impl.DeJudge: {"Stamp", "N", "Keep", "Took", "Forgot", "Void", "Trace"},
		impl.DeDrop:  {"Stamp", "N", "Forgot", "Trace"},
	}
	for _, place := range impl.Order(right.Deeds) {
		for _, name := range told[right.Deeds[place].Op] {
			w := cloneOf(right)
			changes[name](&w.Deeds[place])
			// A thing that went on may be any one, as far as the model knows.
			if impl.Linear(w) && !(name == "S" && !heldStill(right, w.Deeds[place].Stamp)) {
				t.Errorf("the deed %d, %+v: another %s", place, right.Deeds[place], name)
			}
		}
		w := cloneOf(right)
		w.Deeds[place].Now += 50
		if right.Deeds[place].Op == impl.DeJudge && impl.Linear(w) {
			t.Errorf("the deed %d: another Now", place)
		}
	}
}

func heldStill(w impl.World, stamp int) bool {
	return slices.ContainsFunc(impl.OpenTrails(w.St), func(x impl.Trail) bool { return x.Stamp == stamp })
}

// Takes a deed away, or doubles it; the tasks' deeds are where they are then.
func withDeeds(w impl.World, place int, deeds ...impl.Deed) impl.World {
	w = cloneOf(w)
	w.Deeds = slices.Concat(w.Deeds[:place], deeds, w.Deeds[place+1:])
	for k, x := range w.Tasks {
		if x.Op != impl.OpNone && x.H > place {
			w.Tasks[k].H += len(deeds) - 1
		}
	}
	return w
}

func TestLinearWithADeedTakenAwayOrDoubled(t *testing.T) {
	right := linearWorld()
	for place, d := range right.Deeds {
		if d.Res == -1 {
			continue
		}
		less, more := withDeeds(right, place), withDeeds(right, place, d, d)
		if !impl.WorldOk(less) || !impl.WorldOk(more) {
			t.Fatalf("the deed %d: the worlds are not right", place)
		}
		if impl.Linear(less) {
			t.Errorf("without the deed %d, %+v: Linear", place, d)
		}
		if impl.Linear(more) {
			t.Errorf("with the deed %d twice, %+v: Linear", place, d)
		}
	}
	open := withDeeds(right, 0, right.Deeds[0])
	open.Deeds = append(open.Deeds, impl.Deed{Op: impl.DeJudge, Trace: 3, Stamp: 3, Keep: true, Took: 9, Inv: 1, Lin: -1, Res: -1})
	if !impl.Linear(open) {
		t.Error("what was begun, and did not take place, is looked at")
	}
	shut := cloneOf(right)
	shut.Deeds = append(shut.Deeds, impl.Deed{Op: impl.DeShut, Inv: right.Time - 1, Lin: right.Time - 1, Res: right.Time - 1})
	if impl.Linear(shut) {
		t.Error("a deed that tells that it is shut, which it is not")
	}
}

func TestLinearWithAWorldThatIsAnother(t *testing.T) {
	changes := map[string]func(w *impl.World){
		"a token less":             func(w *impl.World) { w.B.Tokens-- },
		"a bucket of another time": func(w *impl.World) { w.B.At-- },
		"one forgotten":            func(w *impl.World) { w.Cache = w.Cache[1:] },
		"remembered, turned round": func(w *impl.World) { slices.Reverse(w.Cache) },
		"remembered otherwise":     func(w *impl.World) { w.Cache[0].Keep = !w.Cache[0].Keep },
		"a trail since earlier":    func(w *impl.World) { anyTrail(w).First-- },
		"another thing":            func(w *impl.World) { anyTrail(w).Spans[0].End++ },
		"a trail less": func(w *impl.World) {
			gone := *anyTrail(w)
			w.St = impl.DropTrail(w.St, gone.Id)
			w.Used -= impl.BytesOf(gone)
		},
		"another Wait": func(w *impl.World) { w.C.Wait = 4 },
		"another rule": func(w *impl.World) { w.C.Rule = allPol },
	}
	for name, change := range changes {
		w := linearWorld()
		change(&w)
		if !impl.WorldOk(w) {
			t.Fatalf("%s: it is not right", name)
		}
		if impl.Linear(w) {
			t.Errorf("%s: Linear", name)
		}
	}
}

func anyTrail(w *impl.World) *impl.Trail {
	for i := range w.St {
		if len(w.St[i].L) > 0 {
			return &w.St[i].L[0]
		}
	}
	return nil
}

func TestSameCache(t *testing.T) {
	l := verdictsOf(4, 5, 6)
	if !impl.SameCache(nil, nil) || !impl.SameCache(nil, []impl.Verdict{}) || !impl.SameCache(l, slices.Clone(l)) {
		t.Error("alike ones")
	}
	for n := range 3 {
		if impl.SameCache(l, l[:n]) || impl.SameCache(l[:n], l) {
			t.Errorf("another length, %d", n)
		}
		for i, change := range []func(v *impl.Verdict){func(v *impl.Verdict) { v.Trace++ }, func(v *impl.Verdict) { v.Stamp-- }, func(v *impl.Verdict) { v.Keep = !v.Keep }} {
			m := roomy(l)
			change(&m[n])
			check := watched(l, m)
			if impl.SameCache(l, m) || impl.SameCache(m, l) {
				t.Errorf("part %d of %d differs", i, n)
			}
			check(t, "SameCache")
		}
	}
	if impl.SameCache(l, []impl.Verdict{l[1], l[0], l[2]}) {
		t.Error("another order")
	}
	wrong := []impl.Verdict{{Trace: -1, Stamp: -4}, {Trace: -1, Stamp: -4}}
	if !impl.SameCache(wrong, slices.Clone(wrong)) || impl.SameCache(wrong, wrong[:1]) {
		t.Error("wrong ones")
	}
}

// Promise 22, as far as chapter 22 tells it: step by step, all that took place could have been done one by one.
func TestEveryStepIsLinear(t *testing.T) {
	for round := range 12 {
		w := impl.WorldNew(someConf(round))
		for i, e := range someEvents(uint32(round)+500, 150) {
			w, _ = impl.DoEvent(w, e)
			if !impl.Linear(w) {
				t.Fatalf("round %d, event %d: it is not Linear", round, i)
			}
		}
	}
}
