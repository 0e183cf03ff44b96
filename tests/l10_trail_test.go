package tests

import (
	"math"
	"slices"
	"testing"

	"loop.example/g00488/impl"
)

func thing(trace, id int) impl.Span {
	return impl.Span{Trace: trace, Id: id, Attrs: []impl.Attr{numAttr("n", id)}}
}

// A trail with things of the Ids.
func trail(id, stamp, first int, ids ...int) impl.Trail {
	t := impl.Trail{Id: id, Stamp: stamp, First: first}
	for _, n := range ids {
		t.Spans = append(t.Spans, thing(id, n))
	}
	return t
}

func cloneTrail(t impl.Trail) impl.Trail {
	t.Spans = cloneSpans(t.Spans)
	return t
}

func cloneTrails(l []impl.Trail) []impl.Trail {
	out := []impl.Trail{}
	for _, t := range l {
		out = append(out, cloneTrail(t))
	}
	return out
}

func sameTrails(l, m []impl.Trail) bool {
	return slices.EqualFunc(l, m, func(a, b impl.Trail) bool {
		return a.Id == b.Id && a.Stamp == b.Stamp && a.First == b.First && sameSpans(a.Spans, b.Spans)
	})
}

func TestTrailOkAtEveryEdge(t *testing.T) {
	cases := []struct {
		name   string
		change func(x *impl.Trail)
		want   bool
	}{
		{"as it is", func(x *impl.Trail) {}, true},
		{"Id 1", func(x *impl.Trail) { *x = trail(1, 1, 0, 1) }, true},
		{"Id 999", func(x *impl.Trail) { *x = trail(999, 1, 0, 1) }, true},
		{"Id 0", func(x *impl.Trail) { *x = trail(0, 1, 0, 1) }, false},
		{"Id 1000", func(x *impl.Trail) { *x = trail(1000, 1, 0, 1) }, false},
		{"Id below 0", func(x *impl.Trail) { *x = trail(-1, 1, 0, 1) }, false},
		{"Stamp 1", func(x *impl.Trail) { x.Stamp = 1 }, true},
		{"the greatest Stamp", func(x *impl.Trail) { x.Stamp = math.MaxInt }, true},
		{"Stamp 0", func(x *impl.Trail) { x.Stamp = 0 }, false},
		{"Stamp below 0", func(x *impl.Trail) { x.Stamp = -1 }, false},
		{"First 0", func(x *impl.Trail) { x.First = 0 }, true},
		{"First MaxNum", func(x *impl.Trail) { x.First = impl.MaxNum }, true},
		{"First one above it", func(x *impl.Trail) { x.First = impl.MaxNum + 1 }, false},
		{"First below 0", func(x *impl.Trail) { x.First = -1 }, false},
		{"no things", func(x *impl.Trail) { x.Spans = nil }, false},
		{"a list of no things", func(x *impl.Trail) { x.Spans = []impl.Span{} }, false},
		{"one thing", func(x *impl.Trail) { x.Spans = x.Spans[:1] }, true},
		{"alike things", func(x *impl.Trail) { x.Spans = slices.Repeat(x.Spans[:1], 50) }, true},
		{"the first not right", func(x *impl.Trail) { x.Spans[0].Id = 0 }, false},
		{"the last not right", func(x *impl.Trail) { x.Spans[2].End = -1 }, false},
		{"one in the midst not right", func(x *impl.Trail) { x.Spans[1].Attrs = slices.Repeat(x.Spans[1].Attrs, 2) }, false},
		{"the first of another trail", func(x *impl.Trail) { x.Spans[0].Trace = 8 }, false},
		{"the last of another trail", func(x *impl.Trail) { x.Spans[2].Trace = 6 }, false},
		{"the trail of another Id", func(x *impl.Trail) { x.Id = 8 }, false},
		{"the zero one", func(x *impl.Trail) { *x = impl.Trail{} }, false},
	}
	for _, c := range cases {
		x := trail(7, 3, 20, 1, 2, 3)
		c.change(&x)
		if got := impl.TrailOk(x); got != c.want {
			t.Errorf("TrailOk, %s: %v", c.name, got)
		}
	}
}

func TestSameTrailByParts(t *testing.T) {
	changes := map[string]func(x *impl.Trail){
		"Id":                   func(x *impl.Trail) { x.Id++ },
		"Stamp":                func(x *impl.Trail) { x.Stamp++ },
		"First":                func(x *impl.Trail) { x.First-- },
		"no things":            func(x *impl.Trail) { x.Spans = nil },
		"one thing less":       func(x *impl.Trail) { x.Spans = x.Spans[:2] },
		"one thing more":       func(x *impl.Trail) { x.Spans = append(x.Spans, impl.Span{}) },
		"the order":            func(x *impl.Trail) { slices.Reverse(x.Spans) },
		"the first thing":      func(x *impl.Trail) { x.Spans[0].Err = true },
		"the last thing":       func(x *impl.Trail) { x.Spans[2].End++ },
		"what is said of one":  func(x *impl.Trail) { x.Spans[1].Attrs[0].N++ },
		"what is said no more": func(x *impl.Trail) { x.Spans[1].Attrs = nil },
	}
	a := trail(7, 3, 20, 1, 2, 3)
	if !impl.SameTrail(a, cloneTrail(a)) || !impl.SameTrail(impl.Trail{}, impl.Trail{Spans: []impl.Span{}}) {
		t.Error("it is not the same as itself")
	}
	for name, change := range changes {
		b := cloneTrail(a)
		change(&b)
		if impl.SameTrail(a, b) || impl.SameTrail(b, a) {
			t.Errorf("they differ in %s, and are the same", name)
		}
		if !impl.SameTrail(b, cloneTrail(b)) {
			t.Errorf("after %s it is not the same as itself", name)
		}
	}
}

func TestBytesOf(t *testing.T) {
	cases := []struct {
		x    impl.Trail
		want int
	}{
		{impl.Trail{}, 0}, {trail(7, 1, 0, 1), 17}, {trail(7, 1, 0, 1, 2, 3), 51}, {impl.Trail{Spans: []impl.Span{fullSpan(), {}}}, 108},
	}
	for _, c := range cases {
		if got := impl.BytesOf(c.x); got != c.want || got != impl.TotalOf(c.x.Spans) {
			t.Errorf("BytesOf(%+v) is %d, want %d", c.x, got, c.want)
		}
	}
}

func TestTrailAt(t *testing.T) {
	l := []impl.Trail{trail(4, 1, 0, 1), trail(2, 2, 0, 1), trail(9, 3, 0, 1), trail(2, 4, 0, 1), trail(-3, 5, 0), trail(0, 6, 0)}
	for id, want := range map[int]int{4: 0, 2: 1, 9: 2, -3: 4, 0: 5, 1: -1, 5: -1, math.MinInt: -1, math.MaxInt: -1} {
		if got := impl.TrailAt(l, id); got != want {
			t.Errorf("TrailAt(%d) is %d, want %d", id, got, want)
		}
	}
	if impl.TrailAt(nil, 4) != -1 || impl.TrailAt(l[:0], 4) != -1 || impl.TrailAt(l[:1], 2) != -1 {
		t.Error("found where nothing is")
	}
}

func TestOlder(t *testing.T) {
	cases := []struct {
		a, b impl.Trail
		want bool
	}{
		{trail(1, 5, 3), trail(2, 5, 4), true},
		{trail(1, 9, 3), trail(2, 5, 4), true},
		{trail(1, 1, 4), trail(2, 5, 3), false},
		{trail(2, 4, 3), trail(1, 5, 3), true},
		{trail(1, 5, 3), trail(2, 5, 3), false},
		{trail(1, 6, 3), trail(2, 5, 3), false},
		{trail(1, -1, -3), trail(2, 0, -3), true},
		{trail(1, 5, math.MinInt), trail(2, 5, math.MaxInt), true},
		{trail(1, 5, math.MaxInt), trail(2, 5, math.MinInt), false},
		{trail(1, math.MinInt, 0), trail(2, math.MaxInt, 0), true},
		{impl.Trail{}, impl.Trail{}, false},
	}
	for _, c := range cases {
		if got := impl.Older(c.a, c.b); got != c.want {
			t.Errorf("Older(%+v, %+v) is %v", c.a, c.b, got)
		}
	}
}

func TestAddToByExample(t *testing.T) {
	l := func() []impl.Trail {
		return []impl.Trail{trail(2, 7, 10, 1), trail(4, 5, 11, 1, 2), trail(9, 6, 12, 3)}
	}
	cases := []struct {
		name string
		l    []impl.Trail
		s    impl.Span
		want []impl.Trail
	}{
		{"for the first", l(), thing(2, 8), []impl.Trail{trail(2, 7, 10, 1, 8), trail(4, 5, 11, 1, 2), trail(9, 6, 12, 3)}},
		{"for one in the midst", l(), thing(4, 8), []impl.Trail{trail(2, 7, 10, 1), trail(4, 5, 11, 1, 2, 8), trail(9, 6, 12, 3)}},
		{"for the last", l(), thing(9, 8), []impl.Trail{trail(2, 7, 10, 1), trail(4, 5, 11, 1, 2), trail(9, 6, 12, 3, 8)}},
		{"one that is there already", l(), thing(4, 1), []impl.Trail{trail(2, 7, 10, 1), trail(4, 5, 11, 1, 2, 1), trail(9, 6, 12, 3)}},
		{"ahead of all", l(), thing(1, 8), []impl.Trail{trail(1, 30, 40, 8), trail(2, 7, 10, 1), trail(4, 5, 11, 1, 2), trail(9, 6, 12, 3)}},
		{"in the midst", l(), thing(3, 8), []impl.Trail{trail(2, 7, 10, 1), trail(3, 30, 40, 8), trail(4, 5, 11, 1, 2), trail(9, 6, 12, 3)}},
		{"ahead of the last", l(), thing(8, 8), []impl.Trail{trail(2, 7, 10, 1), trail(4, 5, 11, 1, 2), trail(8, 30, 40, 8), trail(9, 6, 12, 3)}},
		{"behind all", l(), thing(10, 8), []impl.Trail{trail(2, 7, 10, 1), trail(4, 5, 11, 1, 2), trail(9, 6, 12, 3), trail(10, 30, 40, 8)}},
		{"into nil", nil, thing(5, 8), []impl.Trail{trail(5, 30, 40, 8)}},
		{"into nothing", []impl.Trail{}, thing(5, 8), []impl.Trail{trail(5, 30, 40, 8)}},
		{"for one without things", []impl.Trail{trail(5, 1, 2)}, thing(5, 8), []impl.Trail{trail(5, 1, 2, 8)}},
		{"the first of two of an Id", []impl.Trail{trail(9, 1, 2, 1), trail(5, 3, 4, 1), trail(5, 5, 6, 1)}, thing(5, 8), []impl.Trail{trail(9, 1, 2, 1), trail(5, 3, 4, 1, 8), trail(5, 5, 6, 1)}},
		{"behind greater ones", []impl.Trail{trail(9, 1, 2, 1), trail(5, 3, 4, 1)}, thing(5, 8), []impl.Trail{trail(9, 1, 2, 1), trail(5, 3, 4, 1, 8)}},
		{"ahead of the first greater one, out of order", []impl.Trail{trail(3, 1, 2, 1), trail(9, 3, 4, 1), trail(2, 5, 6, 1)}, thing(5, 8), []impl.Trail{trail(3, 1, 2, 1), trail(5, 30, 40, 8), trail(9, 3, 4, 1), trail(2, 5, 6, 1)}},
		{"a wrong thing", l(), impl.Span{Trace: -5}, []impl.Trail{{Id: -5, Stamp: 30, First: 40, Spans: []impl.Span{{Trace: -5}}}, trail(2, 7, 10, 1), trail(4, 5, 11, 1, 2), trail(9, 6, 12, 3)}},
		{"the zero thing", nil, impl.Span{}, []impl.Trail{{Stamp: 30, First: 40, Spans: []impl.Span{{}}}}},
		{"of the least trail", l()[:1], thing(math.MinInt, 8), []impl.Trail{trail(math.MinInt, 30, 40, 8), trail(2, 7, 10, 1)}},
		{"of the greatest trail", l()[:1], thing(math.MaxInt, 8), []impl.Trail{trail(2, 7, 10, 1), trail(math.MaxInt, 30, 40, 8)}},
	}
	for _, c := range cases {
		given := roomy(c.l)
		check := watched(given, c.s)
		got := impl.AddTo(given, c.s, 30, 40)
		if !sameTrails(got, c.want) {
			t.Errorf("AddTo, %s: %+v, want %+v", c.name, got, c.want)
		}
		check(t, "AddTo, "+c.name)
		apart(t, "AddTo, "+c.name, []any{got}, given, c.s)
	}
}

func TestAddToTakesStampAndTimeAsTheyAre(t *testing.T) {
	for _, n := range []int{math.MinInt, -1, 0, 1, impl.MaxNum, impl.MaxNum + 1, math.MaxInt} {
		if got := impl.AddTo(nil, thing(5, 1), n, 7); !sameTrails(got, []impl.Trail{trail(5, n, 7, 1)}) {
			t.Errorf("Stamp %d: %+v", n, got)
		}
		if got := impl.AddTo(nil, thing(5, 1), 7, n); !sameTrails(got, []impl.Trail{trail(5, 7, n, 1)}) {
			t.Errorf("now %d: %+v", n, got)
		}
	}
}

// Promise 10, and that nothing else changes: things of many trails in turn, beside what was added so far.
func TestWhatIsAddedIsTheLastOfItsTrail(t *testing.T) {
	l, added := []impl.Trail(nil), map[int][]impl.Span{}
	seed := uint32(3)
	for step := range 300 {
		seed = seed*1664525 + 1013904223
		s := thing(1+int(seed>>16)%20, 1+step)
		before := cloneTrails(l)
		known := impl.TrailAt(l, s.Trace) >= 0
		next := impl.AddTo(l, s, step+1, 2*step)
		added[s.Trace] = append(added[s.Trace], s)
		x := next[impl.TrailAt(next, s.Trace)]
		if !sameSpans(x.Spans[len(x.Spans)-1:], []impl.Span{s}) || !sameSpans(x.Spans, added[s.Trace]) || !impl.TrailOk(x) {
			t.Fatalf("after %+v was added, its trail is %+v", s, x)
		}
		if !known && (x.Stamp != step+1 || x.First != 2*step) {
			t.Fatalf("a new trail is %+v", x)
		}
		others := func(l []impl.Trail) []impl.Trail {
			return slices.DeleteFunc(cloneTrails(l), func(y impl.Trail) bool { return y.Id == s.Trace })
		}
		if !sameTrails(others(next), others(before)) || !sameTrails(l, before) {
			t.Fatal("another trail was changed")
		}
		if !slices.IsSortedFunc(next, func(a, b impl.Trail) int { return a.Id - b.Id }) {
			t.Fatalf("out of order: %+v", next)
		}
		l = next
	}
	if len(l) != 20 {
		t.Errorf("there are %d trails", len(l))
	}
}

func TestTrailsAreLeftAsTheyWere(t *testing.T) {
	l := roomy([]impl.Trail{trail(2, 7, 10, 1), trail(4, 5, 11, 1, 2)})
	check := watched(l)
	impl.TrailOk(l[1])
	impl.SameTrail(l[0], l[1])
	impl.BytesOf(l[1])
	impl.TrailAt(l, 4)
	impl.Older(l[0], l[1])
	check(t, "they")
	if !impl.TrailOk(l[1]) || impl.BytesOf(l[0]) != 17 {
		t.Error("what lies behind a list was looked at")
	}
}
