package tests

import (
	"math"
	"slices"
	"testing"

	"loop.example/g00488/impl"
)

func item(stamp, trace, id int) impl.Item {
	return impl.Item{Stamp: stamp, S: thing(trace, id)}
}

func offering(pc int) impl.Task {
	t := impl.Task{Op: impl.OpOffer, Pc: pc, S: thing(5, 1), H: 4}
	if pc == 3 {
		t.Trace, t.Stamp = 8, 6
	}
	return t
}

func judging(pc int) impl.Task {
	t := impl.Task{Op: impl.OpJudge, Pc: pc, Trace: 8, Stamp: 6, H: 4}
	if pc == 3 {
		t.Hand = []impl.Item{item(6, 8, 1), item(6, 8, 2)}
	}
	return t
}

func TestTaskConstants(t *testing.T) {
	if impl.OpNone != 0 || impl.OpOffer != 1 || impl.OpJudge != 2 || impl.Offerers != 3 {
		t.Error("a constant is not as told")
	}
}

func TestTaskOkByWhoItIs(t *testing.T) {
	for _, k := range []int{math.MinInt, -1, 0, 1, 2, 3, 4, 5, math.MaxInt} {
		if got, want := impl.TaskOk(impl.Task{}, k), k >= 0 && k <= 4; got != want {
			t.Errorf("one about nothing, %d: %v", k, got)
		}
		for pc := range 4 {
			if got, want := impl.TaskOk(offering(pc), k), k >= 0 && k <= 2; got != want {
				t.Errorf("one who offers at %d, %d: %v", pc, k, got)
			}
			if got, want := impl.TaskOk(judging(pc), k), k == 3 || k == 4; got != want {
				t.Errorf("one who judges at %d, %d: %v", pc, k, got)
			}
		}
	}
}

// Each change makes a task wrong, but for those that are named as still right.
func TestTaskOkByParts(t *testing.T) {
	changes := map[string]func(x *impl.Task){
		"Op -1":                    func(x *impl.Task) { x.Op = -1 },
		"Op 3":                     func(x *impl.Task) { x.Op = 3 },
		"Pc -1":                    func(x *impl.Task) { x.Pc = -1 },
		"Pc 4":                     func(x *impl.Task) { x.Pc = 4 },
		"H below 0":                func(x *impl.Task) { x.H = -1 },
		"H 0":                      func(x *impl.Task) { x.H = 0 },
		"the greatest H":           func(x *impl.Task) { x.H = math.MaxInt },
		"no S":                     func(x *impl.Task) { x.S = impl.Span{} },
		"no S, but an empty list":  func(x *impl.Task) { x.S = impl.Span{Attrs: []impl.Attr{}} },
		"another S":                func(x *impl.Task) { x.S = fullSpan() },
		"a wrong S":                func(x *impl.Task) { x.S = thing(5, 1000) },
		"S of a Trace alone":       func(x *impl.Task) { x.S = impl.Span{Trace: 1} },
		"S of an Id alone":         func(x *impl.Task) { x.S = impl.Span{Id: 1} },
		"S of a Start alone":       func(x *impl.Task) { x.S = impl.Span{Start: 1} },
		"S of an End alone":        func(x *impl.Task) { x.S = impl.Span{End: 1} },
		"S that failed":            func(x *impl.Task) { x.S = impl.Span{Err: true} },
		"S of something said":      func(x *impl.Task) { x.S = impl.Span{Attrs: []impl.Attr{{}}} },
		"Trace 0":                  func(x *impl.Task) { x.Trace = 0 },
		"Trace 1":                  func(x *impl.Task) { x.Trace = 1 },
		"Trace 999":                func(x *impl.Task) { x.Trace = 999 },
		"Trace 1000":               func(x *impl.Task) { x.Trace = 1000 },
		"Trace below 0":            func(x *impl.Task) { x.Trace = -1 },
		"Stamp 0":                  func(x *impl.Task) { x.Stamp = 0 },
		"Stamp below 0":            func(x *impl.Task) { x.Stamp = -1 },
		"Stamp 6":                  func(x *impl.Task) { x.Stamp = 6 },
		"Stamp 1":                  func(x *impl.Task) { x.Stamp = 1 },
		"a trail":                  func(x *impl.Task) { x.Trace, x.Stamp = 3, 6 },
		"no trail":                 func(x *impl.Task) { x.Trace, x.Stamp = 0, 0 },
		"no hand":                  func(x *impl.Task) { x.Hand = nil },
		"a hand of nothing":        func(x *impl.Task) { x.Hand = []impl.Item{} },
		"one in hand":              func(x *impl.Task) { x.Hand = []impl.Item{item(6, 8, 1)} },
		"of another trail in hand": func(x *impl.Task) { x.Hand = []impl.Item{item(6, 8, 1), item(6, 9, 1)} },
		"of another Stamp, first":  func(x *impl.Task) { x.Hand = []impl.Item{item(7, 8, 1), item(6, 8, 2)} },
		"of another Stamp, last":   func(x *impl.Task) { x.Hand = []impl.Item{item(6, 8, 1), item(5, 8, 2)} },
		"a wrong one in hand":      func(x *impl.Task) { x.Hand = []impl.Item{item(6, 8, 1), item(6, 8, 1000)} },
		"the zero one in hand":     func(x *impl.Task) { x.Hand = []impl.Item{{}} },
	}
	still := map[string][]string{
		"none":    {"H 0", "no S", "no S, but an empty list", "Trace 0", "Stamp 0", "no trail", "no hand", "a hand of nothing"},
		"offer":   {"H 0", "the greatest H", "another S", "Trace 0", "Stamp 0", "no trail", "no hand", "a hand of nothing"},
		"offer 3": {"H 0", "the greatest H", "another S", "Trace 1", "Trace 999", "Stamp 6", "Stamp 1", "a trail", "no hand", "a hand of nothing"},
		"judge":   {"H 0", "the greatest H", "no S", "no S, but an empty list", "Trace 1", "Trace 999", "Stamp 6", "Stamp 1", "a trail", "no hand", "a hand of nothing"},
		"judge 3": {"H 0", "the greatest H", "no S", "no S, but an empty list", "Trace 1", "Trace 999", "Stamp 6", "a trail", "one in hand", "of another trail in hand"},
	}
	tasks := []struct {
		kind string
		x    impl.Task
		k    int
	}{
		{"none", impl.Task{}, 0}, {"none", impl.Task{}, 4}, {"offer", offering(0), 0}, {"offer", offering(1), 1}, {"offer", offering(2), 2}, {"offer 3", offering(3), 2},
		{"judge", judging(0), 3}, {"judge", judging(1), 4}, {"judge", judging(2), 3}, {"judge 3", judging(3), 4},
	}
	for _, c := range tasks {
		if !impl.TaskOk(c.x, c.k) {
			t.Errorf("%s, task %d, is not right as it is", c.kind, c.k)
		}
		for name, change := range changes {
			x := c.x
			change(&x)
			if got := impl.TaskOk(x, c.k); got != slices.Contains(still[c.kind], name) {
				t.Errorf("%s at %d, task %d, %s: %v", c.kind, c.x.Pc, c.k, name, got)
			}
		}
	}
	for pc := -1; pc <= 4; pc++ {
		if got := impl.TaskOk(impl.Task{Pc: pc}, 0); got != (pc == 0) {
			t.Errorf("about nothing, at %d: %v", pc, got)
		}
	}
	if impl.TaskOk(impl.Task{H: 1}, 1) || impl.TaskOk(impl.Task{H: -1}, 1) {
		t.Error("about nothing, with a deed, it is right")
	}
}

func TestHoldsStripe(t *testing.T) {
	for _, n := range []int{math.MinInt, -1, 0, 1, 2, 3, 7} {
		for pc := -1; pc <= 4; pc++ {
			for _, op := range []int{-1, 0, 1, 2, 3} {
				for _, trace := range []int{1, 2, 3, 4, 999, 0, -5} {
					x := impl.Task{Op: op, Pc: pc, S: impl.Span{Trace: trace}, Trace: trace + 1}
					want := -1
					if n >= 1 && op == 1 && pc == 1 {
						want = wantedMix(trace) % n
					}
					if n >= 1 && (op == 1 && pc == 3 || op == 2 && (pc == 1 || pc == 2)) {
						want = wantedMix(trace+1) % n
					}
					if got := impl.HoldsStripe(x, n); got != want {
						t.Errorf("HoldsStripe(%+v, %d) is %d, want %d", x, n, got, want)
					}
				}
			}
		}
	}
}

// Promise 14.
func TestWhoHoldsTheRuleHoldsAStripe(t *testing.T) {
	for op := -1; op <= 3; op++ {
		for pc := -1; pc <= 4; pc++ {
			x := impl.Task{Op: op, Pc: pc, Trace: 8, Stamp: 6}
			if got, want := impl.HoldsRule(x), op == 2 && pc == 2; got != want {
				t.Errorf("HoldsRule(%+v) is %v", x, got)
			}
			for n := 1; n <= 3; n++ {
				if i := impl.HoldsStripe(x, n); impl.HoldsRule(x) && (i < 0 || i >= n) {
					t.Errorf("%+v holds the rule, and of %d stripes %d", x, n, i)
				}
			}
		}
	}
}

func TestItems(t *testing.T) {
	cases := []struct {
		name string
		x    impl.Item
		want bool
	}{
		{"right", item(6, 8, 1), true},
		{"Stamp 1", item(1, 8, 1), true},
		{"the greatest Stamp", item(math.MaxInt, 8, 1), true},
		{"Stamp 0", item(0, 8, 1), false},
		{"Stamp below 0", item(-1, 8, 1), false},
		{"no thing", impl.Item{Stamp: 1}, false},
		{"a thing that is not right", item(1, 1000, 1), false},
		{"the zero one", impl.Item{}, false},
	}
	for _, c := range cases {
		if got := impl.ItemOk(c.x); got != c.want {
			t.Errorf("ItemOk, %s: %v", c.name, got)
		}
	}
}

func TestSameItemByParts(t *testing.T) {
	make1 := func() impl.Item { return impl.Item{Stamp: 6, S: rightSpan()} }
	changes := map[string]func(x *impl.Item){
		"Stamp":                func(x *impl.Item) { x.Stamp++ },
		"Trace":                func(x *impl.Item) { x.S.Trace++ },
		"Id":                   func(x *impl.Item) { x.S.Id++ },
		"Start":                func(x *impl.Item) { x.S.Start++ },
		"End":                  func(x *impl.Item) { x.S.End++ },
		"Err":                  func(x *impl.Item) { x.S.Err = false },
		"nothing said":         func(x *impl.Item) { x.S.Attrs = nil },
		"one less said":        func(x *impl.Item) { x.S.Attrs = x.S.Attrs[:1] },
		"one more said":        func(x *impl.Item) { x.S.Attrs = append(x.S.Attrs, impl.Attr{}) },
		"the order":            func(x *impl.Item) { slices.Reverse(x.S.Attrs) },
		"a name":               func(x *impl.Item) { x.S.Attrs[1].Key += "x" },
		"a number":             func(x *impl.Item) { x.S.Attrs[0].N++ },
		"a text":               func(x *impl.Item) { x.S.Attrs[1].Text += "x" },
		"a number, not a text": func(x *impl.Item) { x.S.Attrs[1].Num = true },
	}
	if !impl.SameItem(make1(), make1()) || !impl.SameItem(impl.Item{}, impl.Item{S: impl.Span{Attrs: []impl.Attr{}}}) {
		t.Error("it is not the same as itself")
	}
	for name, change := range changes {
		a, b, same := make1(), make1(), make1()
		change(&b)
		change(&same)
		if impl.SameItem(a, b) || impl.SameItem(b, a) {
			t.Errorf("they differ in %s, and are the same", name)
		}
		if !impl.SameItem(b, same) {
			t.Errorf("with another %s it is not the same as itself", name)
		}
	}
}

func TestItemsOf(t *testing.T) {
	l := []impl.Item{item(6, 8, 1), item(5, 8, 2), item(6, 8, 3), item(6, 9, 1), item(0, 8, 4), {Stamp: -1}, item(6, 8, 1)}
	cases := map[int][]impl.Span{
		6: {thing(8, 1), thing(8, 3), thing(9, 1), thing(8, 1)}, 5: {thing(8, 2)}, 0: {thing(8, 4)}, -1: {{}}, 7: nil, 1: nil, math.MinInt: nil, math.MaxInt: nil,
	}
	for stamp, want := range cases {
		if got := impl.ItemsOf(l, stamp); !sameSpans(got, want) {
			t.Errorf("ItemsOf(%d) is %+v", stamp, got)
		}
	}
	if got := impl.ItemsOf(l[:1], 6); !sameSpans(got, []impl.Span{thing(8, 1)}) {
		t.Errorf("all of them: %+v", got)
	}
	if len(impl.ItemsOf(nil, 6)) != 0 || len(impl.ItemsOf(l[:0], 6)) != 0 {
		t.Error("of nothing there is something")
	}
}

func TestItemsAreNewMemory(t *testing.T) {
	same := item(6, 8, 1)
	for _, given := range [][]impl.Item{nil, {same, item(5, 8, 2), same}, {item(6, 8, 3)}} {
		l := roomy(given)
		if len(l) == 3 {
			l[2].S.Attrs = l[0].S.Attrs
		}
		x := roomy(judging(3))
		check := watched(l, x)
		apart(t, "ItemsOf", []any{impl.ItemsOf(l, 6)}, l)
		impl.TaskOk(x, 3)
		impl.HoldsStripe(x, 2)
		impl.HoldsRule(x)
		impl.ItemOk(x.Hand[0])
		impl.SameItem(x.Hand[0], x.Hand[1])
		check(t, "they")
		if !impl.TaskOk(x, 3) {
			t.Error("what lies behind a hand was looked at")
		}
	}
}
