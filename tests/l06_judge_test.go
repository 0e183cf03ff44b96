package tests

import (
	"math"
	"slices"
	"testing"

	"loop.example/g00488/impl"
)

// What the document asks of Wants, kind by kind.
func wantedWants(p impl.Pol, l []impl.Span, tokens int) bool {
	someThing := func(such func(s impl.Span) bool) bool { return slices.ContainsFunc(l, such) }
	someRule := func(want bool) bool {
		return slices.ContainsFunc(p.L, func(q impl.Pol) bool { return wantedWants(q, l, tokens) == want })
	}
	first := func(s impl.Span) impl.Attr {
		place := slices.IndexFunc(s.Attrs, func(a impl.Attr) bool { return a.Key == p.Key })
		if place < 0 {
			return impl.Attr{Num: true, N: math.MinInt}
		}
		return s.Attrs[place]
	}
	switch p.Kind {
	case 1:
		return true
	case 2:
		return someThing(func(s impl.Span) bool { return s.Err })
	case 3:
		return someThing(func(s impl.Span) bool { return impl.Sub(s.End, s.Start) >= p.N })
	case 4:
		return someThing(func(s impl.Span) bool { return !first(s).Num && first(s).Text == p.Text })
	case 5:
		return someThing(func(s impl.Span) bool { return first(s).Num && first(s).N >= p.N && first(s).N > math.MinInt })
	case 6:
		return tokens >= len(l)
	case 7:
		return !someRule(false)
	case 8:
		return someRule(true)
	case 9:
		return len(p.L) == 0 || !wantedWants(p.L[0], l, tokens)
	}
	return false
}

func judgedTrail() []impl.Span {
	return []impl.Span{
		{Trace: 1, Id: 1, Start: 1, End: 4, Attrs: []impl.Attr{numAttr("code", 200), textAttr("k", "a")}},
		{Trace: 1, Id: 2, Start: 2, End: 9, Err: true},
	}
}

func judgedTrails() [][]impl.Span {
	return [][]impl.Span{
		nil, {}, {{}}, judgedTrail(), judgedTrail()[:1], judgedTrail()[1:],
		{{Trace: 1, Id: 1, Start: 5, End: 1, Attrs: []impl.Attr{textAttr("k", "b"), textAttr("k", "a"), numAttr("code", 1), numAttr("code", 900)}}},
		{{Attrs: []impl.Attr{numAttr("k", 7), textAttr("k", "a"), textAttr("code", "200"), numAttr("code", 900)}}, {Err: true, End: math.MaxInt}},
		slices.Repeat(judgedTrail(), 4),
		{{Attrs: []impl.Attr{numAttr("code", -5), numAttr("", 3), textAttr("x", "")}}},
	}
}

// Rules of each kind, right ones and such as are not.
func judgingPols() []impl.Pol {
	l := append(rightPols(),
		impl.Pol{}, impl.Pol{Kind: 10}, impl.Pol{Kind: -1}, impl.Pol{Kind: 12, L: []impl.Pol{allPol}},
		longPol(-1), longPol(7), longPol(8), longPol(math.MinInt), numPol("code", -5), numPol("code", 200), numPol("code", 201), numPol("k", 0),
		numPol("", 0), numPol("none", math.MinInt), textPol("code", ""), textPol("code", "200"), textPol("k", "b"), textPol("x", ""), textPol("", ""),
		impl.Pol{Kind: impl.PoText, Key: "k", Text: "a", N: 99}, impl.Pol{Kind: impl.PoNum, Key: "code", N: 1, Text: "x"},
		andPol(), orPol(), notPol(), notPol(allPol, errPol), notPol(errPol, allPol), notPol(impl.Pol{}), notPol(notPol()), notPol(notPol(allPol, ratePol)),
		impl.Pol{Kind: impl.PoAll, L: []impl.Pol{ratePol}}, impl.Pol{Kind: impl.PoNot, N: 4, Key: "k", L: []impl.Pol{ratePol}},
		andPol(allPol, allPol, allPol, allPol, allPol, ratePol), nested(ratePol, 9), nested(errPol, 10),
	)
	for _, p := range []impl.Pol{errPol, longPol(7), ratePol, allPol, {}} {
		for _, q := range []impl.Pol{errPol, ratePol, notPol(allPol), textPol("k", "a")} {
			l = append(l, andPol(p, q), orPol(p, q), notPol(andPol(q, p)), andPol(notPol(p), orPol(q, p)))
		}
	}
	return l
}

var judgingTokens = []int{math.MinInt, -1, 0, 1, 2, 3, 7, 8, 9, impl.MaxNum, impl.MaxNum + 1, math.MaxInt}

func TestWantsByExample(t *testing.T) {
	l := judgedTrail()
	cases := []struct {
		name   string
		p      impl.Pol
		l      []impl.Span
		tokens int
		want   bool
	}{
		{"all", allPol, l, 0, true},
		{"all of nothing", allPol, nil, 0, true},
		{"err", errPol, l, 0, true},
		{"err of none that failed", errPol, l[:1], 0, false},
		{"err of nothing", errPol, nil, 0, false},
		{"long, just as long", longPol(7), l, 0, true},
		{"long, one more", longPol(8), l, 0, false},
		{"long 0 of a thing", longPol(0), []impl.Span{{}}, 0, true},
		{"long 0 of nothing", longPol(0), nil, 0, false},
		{"long below 0", longPol(-1), []impl.Span{{}}, 0, true},
		{"text", textPol("k", "a"), l, 0, true},
		{"text of another one", textPol("k", "b"), l, 0, false},
		{"text of a beginning", textPol("k", ""), l, 0, false},
		{"text of a number", textPol("code", ""), l, 0, false},
		{"text of a name that is not there", textPol("x", ""), l, 0, false},
		{"text of nothing", textPol("k", "a"), nil, 0, false},
		{"num, just as much", numPol("code", 200), l, 0, true},
		{"num, one more", numPol("code", 201), l, 0, false},
		{"num, less", numPol("code", 0), l, 0, true},
		{"num of a text", numPol("k", 0), l, 0, false},
		{"num of a name that is not there", numPol("x", 0), l, 0, false},
		{"num of nothing", numPol("code", 0), nil, 0, false},
		{"rate, one fewer", ratePol, l, 1, false},
		{"rate, as many", ratePol, l, 2, true},
		{"rate, more", ratePol, l, 3, true},
		{"rate, below 0", ratePol, l, -1, false},
		{"rate of nothing", ratePol, nil, 0, true},
		{"rate of nothing, below 0", ratePol, nil, -1, false},
		{"and of both", andPol(errPol, longPol(7)), l, 0, true},
		{"and of one", andPol(errPol, longPol(8)), l, 0, false},
		{"and of none", andPol(), l, 0, true},
		{"or of one", orPol(longPol(8), errPol), l, 0, true},
		{"or of neither", orPol(longPol(8), longPol(9)), l, 0, false},
		{"or of none", orPol(), l, 0, false},
		{"not", notPol(errPol), l, 0, false},
		{"not, of what does not", notPol(longPol(8)), l, 0, true},
		{"not of none", notPol(), l, 0, true},
		{"not of two: the first one counts", notPol(longPol(8), errPol), l, 0, true},
		{"not of two: the second one does not", notPol(errPol, longPol(8)), l, 0, false},
		{"the zero one", impl.Pol{}, l, 9, false},
		{"Kind 12", impl.Pol{Kind: 12}, l, 9, false},
		{"Kind 12 with an all in it", impl.Pol{Kind: 12, L: []impl.Pol{allPol}}, l, 9, false},
	}
	for _, c := range cases {
		if got := impl.Wants(c.p, c.l, c.tokens); got != c.want {
			t.Errorf("Wants, %s: %v", c.name, got)
		}
	}
}

func TestTheFirstOfANameCounts(t *testing.T) {
	l := []impl.Span{{Attrs: []impl.Attr{textAttr("k", "first"), textAttr("k", "second"), textAttr("n", "x"), numAttr("n", 5)}}}
	m := []impl.Span{{Attrs: []impl.Attr{numAttr("k", 5), textAttr("k", "second"), numAttr("n", 1), numAttr("n", 5)}}}
	both := append(slices.Clone(l), m...)
	cases := []struct {
		name string
		p    impl.Pol
		l    []impl.Span
		want bool
	}{
		{"the first text", textPol("k", "first"), l, true},
		{"the second text", textPol("k", "second"), l, false},
		{"a text behind a number", textPol("k", "second"), m, false},
		{"a number behind a text", numPol("n", 5), l, false},
		{"the first number", numPol("n", 1), m, true},
		{"the second number", numPol("n", 5), m, false},
		{"of another thing", numPol("k", 5), both, true},
	}
	for _, c := range cases {
		if got := impl.Wants(c.p, c.l, 0); got != c.want {
			t.Errorf("Wants, %s: %v", c.name, got)
		}
	}
}

func TestWantsAndJudgeOfMany(t *testing.T) {
	for _, p := range judgingPols() {
		before := clonePol(p)
		for _, l := range judgedTrails() {
			was := cloneSpans(l)
			for _, tokens := range judgingTokens {
				want := wantedWants(p, l, tokens)
				if got := impl.Wants(p, l, tokens); got != want {
					t.Errorf("Wants(%+v, %+v, %d) is %v", p, l, tokens, got)
				}
				took := 0
				if want && impl.HasRate(p) {
					took = max(0, min(len(l), tokens))
				}
				if got, n := impl.Judge(p, l, tokens); got != want || n != took {
					t.Errorf("Judge(%+v, %+v, %d) is %v, %d, want %v, %d", p, l, tokens, got, n, want, took)
				}
			}
			if !sameSpans(l, was) {
				t.Errorf("the trail %+v was changed", was)
			}
		}
		if !samePols(p, before) {
			t.Errorf("the rule %+v was changed", before)
		}
	}
}

func TestJudgeByExample(t *testing.T) {
	l := judgedTrail()
	cases := []struct {
		name   string
		p      impl.Pol
		l      []impl.Span
		tokens int
		keep   bool
		took   int
	}{
		{"no rate in it", errPol, l, 9, true, 0},
		{"rate, more than it takes", ratePol, l, 9, true, 2},
		{"rate, just as many", ratePol, l, 2, true, 2},
		{"rate, one fewer", ratePol, l, 1, false, 0},
		{"rate, below 0", ratePol, l, -1, false, 0},
		{"rate of nothing", ratePol, nil, 5, true, 0},
		{"not rate: what there is is taken", notPol(ratePol), l, 1, true, 1},
		{"not rate: none is there", notPol(ratePol), l, 0, true, 0},
		{"not rate: enough", notPol(ratePol), l, 2, false, 0},
		{"not rate: below 0", notPol(ratePol), l, -3, true, 0},
		{"a rate that is not asked", orPol(errPol, ratePol), l, 1, true, 1},
		{"a rate that is not named", impl.Pol{Kind: impl.PoAll, L: []impl.Pol{ratePol}}, l, 1, true, 1},
		{"not wanted, with a rate", andPol(ratePol, longPol(99)), l, 9, false, 0},
		{"another Kind, with a rate", impl.Pol{Kind: 12, L: []impl.Pol{ratePol}}, l, 9, false, 0},
	}
	for _, c := range cases {
		if keep, took := impl.Judge(c.p, c.l, c.tokens); keep != c.keep || took != c.took {
			t.Errorf("Judge, %s: %v, %d, want %v, %d", c.name, keep, took, c.keep, c.took)
		}
	}
}

func TestErrorsAndLongest(t *testing.T) {
	cases := []struct {
		name            string
		l               []impl.Span
		errors, longest int
	}{
		{"nil", nil, 0, 0},
		{"none", []impl.Span{}, 0, 0},
		{"two", judgedTrail(), 1, 7},
		{"the longest first", []impl.Span{{End: 9}, {End: 3, Err: true}, {Start: 1, End: 3, Err: true}}, 2, 9},
		{"Start above End", []impl.Span{{Start: 9, End: 2}}, 0, 0},
		{"below 0", []impl.Span{{Start: -9, End: -2, Err: true}}, 1, 0},
		{"out of bounds", []impl.Span{{Start: math.MinInt, End: math.MaxInt}, {End: 5}}, 0, impl.MaxNum},
		{"many", slices.Repeat(judgedTrail(), 1000), 1000, 7},
	}
	for _, c := range cases {
		if got := impl.Errors(c.l); got != c.errors {
			t.Errorf("Errors of %s is %d, want %d", c.name, got, c.errors)
		}
		if got := impl.Longest(c.l); got != c.longest {
			t.Errorf("Longest of %s is %d, want %d", c.name, got, c.longest)
		}
	}
}

func TestOppositeByExample(t *testing.T) {
	cases := []struct {
		name    string
		p, want impl.Pol
	}{
		{"all", allPol, notPol(allPol)},
		{"not of one", notPol(errPol), errPol},
		{"not of not", notPol(notPol(errPol)), notPol(errPol)},
		{"not of none", notPol(), notPol(notPol())},
		{"not of two", notPol(allPol, errPol), notPol(notPol(allPol, errPol))},
		{"and of one", andPol(errPol), notPol(andPol(errPol))},
		{"the zero one", impl.Pol{}, notPol(impl.Pol{})},
		{"a not with more beside it", impl.Pol{Kind: impl.PoNot, N: 3, Text: "x", L: []impl.Pol{ratePol}}, ratePol},
		{"all its parts", impl.Pol{Kind: 77, N: -1, Key: "K", Text: "\"", L: []impl.Pol{allPol, orPol(longPol(3), impl.Pol{Kind: -4, Text: "t"})}},
			notPol(impl.Pol{Kind: 77, N: -1, Key: "K", Text: "\"", L: []impl.Pol{allPol, orPol(longPol(3), impl.Pol{Kind: -4, Text: "t"})}})},
	}
	for _, c := range cases {
		if got := impl.Opposite(c.p); !samePols(got, c.want) {
			t.Errorf("Opposite of %s is %+v, want %+v", c.name, got, c.want)
		}
	}
}

// Promise 6.
func TestWhatARuleWantsItsOppositeDoesNot(t *testing.T) {
	for _, p := range judgingPols() {
		q := impl.Opposite(p)
		for _, l := range judgedTrails() {
			for _, tokens := range judgingTokens {
				if impl.Wants(p, l, tokens) == impl.Wants(q, l, tokens) {
					t.Errorf("both %+v and its Opposite, or neither, want %+v with %d tokens", p, l, tokens)
				}
			}
		}
	}
}

func spoilPol(p *impl.Pol) {
	p.Kind, p.N, p.Key, p.Text = -7, -7, "spoilt", "spoilt"
	for i := range p.L {
		spoilPol(&p.L[i])
	}
	full := p.L[:cap(p.L)]
	for i := len(p.L); i < len(full); i++ {
		full[i].Kind = -7
	}
}

func TestOppositeIsNewMemory(t *testing.T) {
	for _, p := range judgingPols() {
		before := clonePol(p)
		want := impl.Opposite(clonePol(p))
		got := impl.Opposite(p)
		spoilPol(&got)
		if !samePols(p, before) {
			t.Errorf("what was done to the answer is seen in %+v", before)
		}
		if again := impl.Opposite(p); !samePols(again, want) {
			t.Errorf("what was done to one answer is seen in the next: %+v", again)
		}
	}
}

func TestDeepRulesAreJudged(t *testing.T) {
	for _, deep := range []int{1001, 1<<20 + 1, 1<<20 + 3} {
		p := nested(errPol, deep)
		if !impl.Wants(p, judgedTrail(), 0) || impl.Wants(notPol(p), judgedTrail(), 0) {
			t.Errorf("%d deep: so many nots, an even number of them, are not nothing", deep)
		}
		if keep, took := impl.Judge(p, judgedTrail(), 9); !keep || took != 0 {
			t.Errorf("%d deep: Judge is %v, %d", deep, keep, took)
		}
		if keep, took := impl.Judge(nested(ratePol, deep), judgedTrail(), 9); !keep || took != len(judgedTrail()) {
			t.Errorf("%d deep, a rate innermost: Judge is %v, %d", deep, keep, took)
		}
		if got := impl.PolCount(impl.Opposite(p)); got != deep-1 {
			t.Errorf("its Opposite has %d rules", got)
		}
		if got := impl.Opposite(andPol(nested(ratePol, deep))); impl.PolCount(got) != deep+2 || !impl.HasRate(got) {
			t.Errorf("the Opposite of what it is in has %d rules", impl.PolCount(got))
		}
	}
}

func TestNoTwoListsOfAnOppositeAreOne(t *testing.T) {
	twice := andPol(allPol)
	got := impl.Opposite(orPol(twice, twice))
	got.L[0].L[0].L[0].Kind = -7
	if want := notPol(orPol(andPol(impl.Pol{Kind: -7}), andPol(allPol))); !samePols(got, want) {
		t.Errorf("what was done to one list is seen in another: %+v", got)
	}
}

func TestRulesWithoutAnEndAreJudged(t *testing.T) {
	l := make([]impl.Pol, 2)
	l[0] = andPol(l...)
	l[1] = impl.Pol{Kind: 12, L: l}
	impl.Wants(l[0], judgedTrail(), 0)
	if keep, took := impl.Judge(l[1], judgedTrail(), 9); keep || took != 0 {
		t.Errorf("another Kind: %v, %d", keep, took)
	}
	if got := impl.Opposite(l[0]); got.Kind != impl.PoNot || got.L[0].Kind != impl.PoAnd {
		t.Error("its Opposite is not its not")
	}
}
