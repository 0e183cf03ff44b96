package tests

import (
	"fmt"
	"math"
	"slices"
	"testing"

	"loop.example/g00488/impl"
)

// A right model of the trails, whose bucket is as of 5.
func modelOf(rule impl.Pol, trails ...impl.Trail) impl.Model {
	c := impl.Conf{Stripes: 2, Wait: 3, Budget: 85, Cache: 2, Queue: 1, Rate: 1, Burst: 5, Rule: rule}
	m := impl.Model{C: c, Open: trails, B: bucket(1, 5, 2, 5)}
	for _, x := range trails {
		m.Used += impl.TotalOf(x.Spans)
	}
	return m
}

// A model in which there is something everywhere: three trails with four things, and two judgments.
func fullModel() impl.Model {
	m := modelOf(errPol, trail(2, 7, 4, 1), trail(5, 3, 6, 1, 2), trail(9, 4, 5, 1))
	m.Cache = []impl.Verdict{{Trace: 30, Stamp: 1, Keep: true}, {Trace: 31, Stamp: 2}}
	return m
}

// A deed that took place and is done.
func offerDeed(s impl.Span, code, stamp, now int) impl.Deed {
	return impl.Deed{Op: impl.DeOffer, Task: 1, S: s, Code: code, Stamp: stamp, Now: now, Inv: 4, Lin: 5, Res: 5}
}

func dropDeed(trace, stamp, n, forgot int) impl.Deed {
	return impl.Deed{Op: impl.DeDrop, Task: 1, Trace: trace, Stamp: stamp, N: n, Forgot: forgot, Now: 9, Inv: 4, Lin: 4, Res: 4}
}

func judgeDeed(trace, stamp int, keep bool, took, n, forgot, now int) impl.Deed {
	return impl.Deed{Op: impl.DeJudge, Task: 3, Trace: trace, Stamp: stamp, Keep: keep, Took: took, N: n, Forgot: forgot, Now: now, Inv: 4, Lin: 5, Res: 6}
}

func voidDeed(trace, stamp int) impl.Deed {
	return impl.Deed{Op: impl.DeJudge, Task: 3, Trace: trace, Stamp: stamp, Void: true, Now: 9, Inv: 4, Lin: 5, Res: 6}
}

// Complains unless d is so, and m is then what change makes of it, which is right, and in new memory.
func isSo(t *testing.T, name string, m impl.Model, d impl.Deed, change func(m *impl.Model)) impl.Model {
	t.Helper()
	if !impl.ModelOk(m) || !impl.DeedOk(d) {
		t.Fatalf("%s: it is not right to begin with: %+v, %+v", name, m, d)
	}
	want := cloneOf(m)
	change(&want)
	given, deed := roomy(m), roomy(d)
	check := watched(given, deed)
	got, ok := impl.Apply(given, deed)
	check(t, name)
	apart(t, name, []any{got}, given, deed)
	if !ok {
		t.Errorf("%s: it is not so", name)
	}
	if x := differs(got, want); x != "" {
		t.Errorf("%s: %s", name, x)
	}
	if !impl.ModelOk(got) {
		t.Errorf("%s: what comes of it is not right: %+v", name, got)
	}
	return got
}

func isNotSo(t *testing.T, name string, m impl.Model, d impl.Deed) {
	t.Helper()
	given, deed := roomy(m), roomy(d)
	check := watched(given, deed)
	got, ok := impl.Apply(given, deed)
	check(t, name)
	apart(t, name, []any{got}, given, deed)
	if ok {
		t.Errorf("%s: it is so", name)
	}
	if x := differs(got, m); x != "" {
		t.Errorf("%s: %s", name, x)
	}
}

func nothing(m *impl.Model) {}

func TestANewModel(t *testing.T) {
	for _, p := range rightPols() {
		c := rightConf()
		c.Rule = p
		given := roomy(c)
		check := watched(given)
		got := impl.ModelNew(given)
		check(t, "ModelNew")
		apart(t, "ModelNew", []any{got}, given)
		if d := differs(got, impl.Model{C: c, B: bucket(1, 3, 3, 0)}); d != "" || !impl.ModelOk(got) {
			t.Errorf("ModelNew of %+v: %s", c, d)
		}
	}
	for name := range confNumbers(new(impl.Conf)) {
		c := rightConf()
		x := confNumbers(&c)[name]
		for _, n := range []int{x.least - 1, x.most + 1} {
			*x.n = n
			if got := impl.ModelNew(c); differs(got, impl.Model{}) != "" || impl.ModelOk(got) {
				t.Errorf("ModelNew, %s is %d: %+v", name, n, got)
			}
			m := fullModel()
			*confNumbers(&m.C)[name].n = n
			if impl.ModelOk(m) {
				t.Errorf("ModelOk, %s is %d", name, n)
			}
		}
	}
	if impl.ModelOk(impl.Model{}) || differs(impl.ModelNew(impl.Conf{}), impl.Model{}) != "" {
		t.Error("a model of nothing is right")
	}
}

func TestModelOkByParts(t *testing.T) {
	cases := []struct {
		name   string
		change func(m *impl.Model)
		want   bool
	}{
		{"as it is", nothing, true},
		{"shut", func(m *impl.Model) { m.Shut = true }, true},
		{"a wrong rule", func(m *impl.Model) { m.C.Rule = impl.Pol{} }, false},
		{"not ascending", func(m *impl.Model) { m.Open[0], m.Open[1] = m.Open[1], m.Open[0] }, false},
		{"two of one Id", func(m *impl.Model) { m.Open[1] = trail(2, 3, 6, 1, 2) }, false},
		{"two of one Stamp", func(m *impl.Model) { m.Open[2].Stamp = 7 }, false},
		{"another Stamp", func(m *impl.Model) { m.Open[2].Stamp = math.MaxInt }, true},
		{"a trail without a Stamp", func(m *impl.Model) { m.Open[2].Stamp = 0 }, false},
		{"a trail of nothing", func(m *impl.Model) { m.Open[2].Spans = nil; m.Used -= 17 }, false},
		{"a trail with a thing of another", func(m *impl.Model) { m.Open[2].Spans[0].Trace = 8 }, false},
		{"a trail of a wrong First", func(m *impl.Model) { m.Open[2].First = -1 }, false},
		{"nothing is held", func(m *impl.Model) { m.Open, m.Used = nil, 0 }, true},
		{"Used is more", func(m *impl.Model) { m.Used++ }, false},
		{"Used is less", func(m *impl.Model) { m.Used-- }, false},
		{"Used is just Budget", func(m *impl.Model) { m.C.Budget = 68 }, true},
		{"Used is above Budget", func(m *impl.Model) { m.C.Budget = 67 }, false},
		{"another Rate", func(m *impl.Model) { m.B.Rate = 2 }, false},
		{"another Burst", func(m *impl.Model) { m.B.Burst = 6 }, false},
		{"too many tokens", func(m *impl.Model) { m.B.Tokens = 6 }, false},
		{"a bucket of a late time", func(m *impl.Model) { m.B.At = impl.MaxNum }, true},
		{"a bucket of too late a time", func(m *impl.Model) { m.B.At = impl.MaxNum + 1 }, false},
		{"too much is remembered", func(m *impl.Model) { m.Cache = append(m.Cache, impl.Verdict{Trace: 32, Stamp: 3}) }, false},
		{"a cache of one", func(m *impl.Model) { m.C.Cache = 1 }, false},
		{"less is remembered", func(m *impl.Model) { m.Cache = m.Cache[:1] }, true},
		{"two judgments of one trail", func(m *impl.Model) { m.Cache[1].Trace = 30 }, false},
		{"a wrong judgment", func(m *impl.Model) { m.Cache[1].Stamp = 0 }, false},
		{"a judgment of a trail that is held", func(m *impl.Model) { m.Cache[1].Trace = 5 }, true},
	}
	for _, c := range cases {
		m := fullModel()
		c.change(&m)
		given := roomy(m)
		check := watched(given)
		if got := impl.ModelOk(given); got != c.want {
			t.Errorf("%s: ModelOk is %v", c.name, got)
		}
		check(t, c.name)
	}
}

func TestApplyOfWhatIsBad(t *testing.T) {
	shut := fullModel()
	shut.Shut = true
	for _, m := range []impl.Model{fullModel(), shut} {
		isSo(t, "not SpanOk", m, offerDeed(impl.Span{}, impl.CoBad, 0, 9), nothing)
		isSo(t, "one larger than the Budget", m, offerDeed(sized(86), impl.CoBad, 0, 9), nothing)
		isNotSo(t, "as large as the Budget", m, offerDeed(sized(85), impl.CoBad, 0, 9))
		isSo(t, "a Stamp is not looked at", m, offerDeed(impl.Span{}, impl.CoBad, 3, 9), nothing)
		isNotSo(t, "it fits", m, offerDeed(thing(2, 9), impl.CoBad, 0, 9))
		for code := impl.CoHeld; code <= impl.CoShut; code++ {
			for _, s := range []impl.Span{{}, sized(86), thing(1000, 1)} {
				isNotSo(t, fmt.Sprintf("it does not fit, %s", impl.CodeName(code)), m, offerDeed(s, code, 0, 9))
				isNotSo(t, fmt.Sprintf("it does not fit, %s, of a Stamp", impl.CodeName(code)), m, offerDeed(s, code, 9, 9))
			}
		}
	}
	// All else is so, but it does not fit.
	m := fullModel()
	wrong := thing(30, 1)
	wrong.Id = 0
	isNotSo(t, "late, and not SpanOk", m, offerDeed(wrong, impl.CoLate, 1, 9))
	wrong.Trace = 31
	isNotSo(t, "gone, and not SpanOk", m, offerDeed(wrong, impl.CoGone, 2, 9))
	wrong.Trace = 2
	isNotSo(t, "held, and not SpanOk", m, offerDeed(wrong, impl.CoHeld, 7, 9))
}

// A thing of the trail 40 of so many bytes.
func sized(n int) impl.Span {
	s := impl.Span{Trace: 40, Id: 1, Attrs: []impl.Attr{textAttr("aaaaaaaa", twentyBytes), textAttr("bbbbbbbb", twentyBytes), textAttr("c", "")}}
	s.Attrs[2].Text = twentyBytes[:n-impl.SizeOf(s)]
	return s
}

func TestApplyWhereItIsShut(t *testing.T) {
	open := fullModel()
	shut := cloneOf(open)
	shut.Shut = true
	for _, trace := range []int{1, 2, 30, 31} {
		d := offerDeed(thing(trace, 8), impl.CoShut, 0, 9)
		isSo(t, "shut", shut, d, nothing)
		isNotSo(t, "not shut", open, d)
		for _, stamp := range []int{-1, 1, 7} {
			d.Stamp = stamp
			isNotSo(t, "shut, with a Stamp", shut, d)
		}
	}
	for _, d := range []impl.Deed{offerDeed(thing(30, 8), impl.CoLate, 1, 9), offerDeed(thing(31, 8), impl.CoGone, 2, 9), offerDeed(thing(2, 8), impl.CoHeld, 7, 9), offerDeed(thing(1, 8), impl.CoHeld, 8, 9)} {
		isNotSo(t, "shut, and "+impl.CodeName(d.Code), shut, d)
		if _, ok := impl.Apply(open, d); !ok {
			t.Errorf("not shut, and %s: it is not so", impl.CodeName(d.Code))
		}
	}
	isSo(t, "it is shut", open, impl.Deed{Op: impl.DeShut}, func(m *impl.Model) { m.Shut = true })
	isNotSo(t, "it is shut again", shut, impl.Deed{Op: impl.DeShut})
}

func TestApplyOfATrailThatWasJudged(t *testing.T) {
	for _, trace := range []int{1, 2, 30, 31} {
		for _, code := range []int{impl.CoLate, impl.CoGone} {
			for stamp := -1; stamp <= 9; stamp++ {
				name := fmt.Sprintf("%s, of %d, %d", impl.CodeName(code), trace, stamp)
				d := offerDeed(thing(trace, 8), code, stamp, 9)
				d.Trace = 31
				if code == impl.CoLate && trace == 30 && stamp == 1 || code == impl.CoGone && trace == 31 && stamp == 2 {
					isSo(t, name, fullModel(), d, nothing)
				} else {
					isNotSo(t, name, fullModel(), d)
				}
			}
		}
	}
}

func TestApplyOfWhatIsHeld(t *testing.T) {
	m := fullModel()
	s := thing(5, 8)
	added := func(m *impl.Model) {
		m.Open[1].Spans = append(m.Open[1].Spans, s)
		m.Used = 85
	}
	isSo(t, "a trail that is there", m, offerDeed(s, impl.CoHeld, 3, 9), added)
	isSo(t, "at 0", m, offerDeed(s, impl.CoHeld, 3, 0), added)
	isSo(t, "at MaxNum", m, offerDeed(s, impl.CoHeld, 3, impl.MaxNum), added)
	isNotSo(t, "above MaxNum", m, offerDeed(s, impl.CoHeld, 3, impl.MaxNum+1))
	isNotSo(t, "below 0", m, offerDeed(s, impl.CoHeld, 3, -1))
	for _, stamp := range []int{-1, 0, 1, 2, 4, 7, 8} {
		isNotSo(t, "a trail that is there, of another Stamp", m, offerDeed(s, impl.CoHeld, stamp, 9))
	}
	for _, trace := range []int{30, 31} {
		isNotSo(t, "a trail that was judged", m, offerDeed(thing(trace, 8), impl.CoHeld, 8, 9))
	}
	tight := cloneOf(m)
	tight.C.Budget = 84
	isNotSo(t, "one byte too much", tight, offerDeed(s, impl.CoHeld, 3, 9))
	isNotSo(t, "one byte too much, and new", tight, offerDeed(thing(7, 8), impl.CoHeld, 8, 9))
	judged := cloneOf(m)
	judged.Cache[1].Trace = 5
	isNotSo(t, "it is held, and was judged", judged, offerDeed(s, impl.CoHeld, 3, 9))
}

func TestApplyOfATrailThatIsNew(t *testing.T) {
	m := fullModel()
	for place, trace := range map[int]int{0: 1, 1: 3, 2: 7, 3: 12} {
		for _, now := range []int{0, 9, impl.MaxNum} {
			for _, stamp := range []int{1, 2, 8, math.MaxInt} {
				isSo(t, fmt.Sprintf("%d, of %d, at %d", trace, stamp, now), m, offerDeed(thing(trace, 8), impl.CoHeld, stamp, now), func(m *impl.Model) {
					m.Open = slices.Insert(m.Open, place, trail(trace, stamp, now, 8))
					m.Used = 85
				})
			}
		}
		isNotSo(t, "new, above MaxNum", m, offerDeed(thing(trace, 8), impl.CoHeld, 8, impl.MaxNum+1))
		isNotSo(t, "new, without a Stamp", m, offerDeed(thing(trace, 8), impl.CoHeld, 0, 9))
		isNotSo(t, "new, of a Stamp below 0", m, offerDeed(thing(trace, 8), impl.CoHeld, -1, 9))
		for _, stamp := range []int{3, 4, 7} {
			isNotSo(t, "new, of a Stamp that another one has", m, offerDeed(thing(trace, 8), impl.CoHeld, stamp, 9))
		}
	}
	isSo(t, "the first one of all", modelOf(errPol), offerDeed(rightSpan(), impl.CoHeld, 1, 9), func(m *impl.Model) {
		m.Open = []impl.Trail{{Id: 7, Stamp: 1, First: 9, Spans: []impl.Span{rightSpan()}}}
		m.Used = 22
	})
}

// The model without the trail at a place, of which it is remembered whether it was kept.
func closed(m *impl.Model, place int, keep bool) {
	gone := m.Open[place]
	m.Open = slices.Delete(m.Open, place, place+1)
	m.Used -= impl.TotalOf(gone.Spans)
	m.Cache = append(m.Cache, impl.Verdict{Trace: gone.Id, Stamp: gone.Stamp, Keep: keep})
}

func TestApplyOfWhatIsDropped(t *testing.T) {
	m := fullModel()
	for _, shut := range []bool{false, true} {
		m.Shut = shut
		isSo(t, "dropped, one is forgotten", m, dropDeed(5, 3, 2, 30), func(m *impl.Model) {
			m.Cache = m.Cache[1:]
			closed(m, 1, false)
		})
	}
	isNotSo(t, "nobody is told to be forgotten", m, dropDeed(5, 3, 2, 0))
	isNotSo(t, "another is told to be forgotten", m, dropDeed(5, 3, 2, 31))
	isNotSo(t, "with fewer things", m, dropDeed(5, 3, 1, 30))
	isNotSo(t, "with more things", m, dropDeed(5, 3, 3, 30))
	isNotSo(t, "with no things", m, dropDeed(5, 3, 0, 30))
	isNotSo(t, "of another Stamp", m, dropDeed(5, 4, 2, 30))
	isNotSo(t, "of no Stamp", m, dropDeed(5, 0, 2, 30))
	isNotSo(t, "another trail", m, dropDeed(9, 3, 2, 30))
	isNotSo(t, "a trail that is not there", m, dropDeed(6, 3, 2, 30))
	isNotSo(t, "a trail that was judged", m, dropDeed(30, 1, 0, 0))
	room := fullModel()
	room.Cache = room.Cache[:1]
	isSo(t, "there is room to remember", room, dropDeed(9, 4, 1, 0), func(m *impl.Model) { closed(m, 2, false) })
	isNotSo(t, "there is room to remember, and one is told to be forgotten", room, dropDeed(9, 4, 1, 30))
	again := fullModel()
	again.Cache[0].Trace = 9
	isSo(t, "an earlier one of this trail was judged", again, dropDeed(9, 4, 1, 0), func(m *impl.Model) {
		m.Cache = m.Cache[1:]
		closed(m, 2, false)
	})
}

func TestApplyOfWhatIsVoid(t *testing.T) {
	m := fullModel()
	for _, d := range []impl.Deed{voidDeed(6, 3), voidDeed(5, 4), voidDeed(5, 0), voidDeed(9, 3), voidDeed(30, 1), voidDeed(-1, -1)} {
		isSo(t, fmt.Sprintf("void, %d, %d", d.Trace, d.Stamp), m, d, nothing)
		d.Now = 0
		isSo(t, fmt.Sprintf("void, %d, %d, early", d.Trace, d.Stamp), m, d, nothing)
		changes := map[string]func(d *impl.Deed){
			"Keep":     func(d *impl.Deed) { d.Keep = true },
			"Took":     func(d *impl.Deed) { d.Took = 1 },
			"N":        func(d *impl.Deed) { d.N = 1 },
			"Forgot":   func(d *impl.Deed) { d.Forgot = 30 },
			"not Void": func(d *impl.Deed) { d.Void = false },
		}
		for name, change := range changes {
			x := d
			change(&x)
			isNotSo(t, "void, with "+name, m, x)
		}
	}
	isNotSo(t, "void, and the trail is there", m, voidDeed(5, 3))
	m.Shut = true
	isNotSo(t, "void, and the trail is there, shut", m, voidDeed(5, 3))
	isSo(t, "void, shut", m, voidDeed(5, 4), nothing)
}

// Of the trail 5 with two things, of which one failed, held since 6; the Deadline is 9, by then the bucket has 5 tokens.
func TestApplyOfWhatIsJudged(t *testing.T) {
	for _, rule := range []impl.Pol{errPol, notPol(errPol), orPol(errPol, ratePol), andPol(notPol(errPol), ratePol)} {
		m := fullModel()
		m.C.Rule = rule
		m.Open[1].Spans[1].Err = true
		keep := wantedWants(rule, m.Open[1].Spans, 5)
		took := 0
		if keep && impl.HasRate(rule) {
			took = 2
		}
		name := "by " + impl.PolText(rule) + ": "
		judged := func(m *impl.Model) {
			m.B.Tokens, m.B.At = 5-took, 9
			m.Cache = m.Cache[1:]
			closed(m, 1, keep)
		}
		isSo(t, name+"at its Deadline", m, judgeDeed(5, 3, keep, took, 2, 30, 9), judged)
		isSo(t, name+"later", m, judgeDeed(5, 3, keep, took, 2, 30, 11), func(m *impl.Model) { judged(m); m.B.At = 11 })
		isNotSo(t, name+"one tick too early", m, judgeDeed(5, 3, keep, took, 2, 30, 8))
		isNotSo(t, name+"kept, or not", m, judgeDeed(5, 3, !keep, took, 2, 30, 9))
		isNotSo(t, name+"more tokens", m, judgeDeed(5, 3, keep, took+1, 2, 30, 9))
		if took > 0 {
			isNotSo(t, name+"no tokens", m, judgeDeed(5, 3, keep, 0, 2, 30, 9))
		}
		isNotSo(t, name+"fewer things", m, judgeDeed(5, 3, keep, took, 1, 30, 9))
		isNotSo(t, name+"more things", m, judgeDeed(5, 3, keep, took, 3, 30, 9))
		isNotSo(t, name+"nobody is forgotten", m, judgeDeed(5, 3, keep, took, 2, 0, 9))
		isNotSo(t, name+"another is forgotten", m, judgeDeed(5, 3, keep, took, 2, 31, 9))
		isNotSo(t, name+"another Stamp", m, judgeDeed(5, 4, keep, took, 2, 30, 9))
		isNotSo(t, name+"another trail", m, judgeDeed(6, 3, keep, took, 2, 30, 9))
		m.Shut, m.B.At = true, 0
		isSo(t, name+"shut, and early", m, judgeDeed(5, 3, keep, took, 2, 30, 4), func(m *impl.Model) { judged(m); m.B.At = 4 })
	}
}

func TestApplyOfTokens(t *testing.T) {
	cases := []struct {
		name string
		b    impl.Bucket
		now  int
		keep bool
		took int
		want impl.Bucket
	}{
		{"just enough", bucket(1, 5, 2, 9), 9, true, 2, bucket(1, 5, 0, 9)},
		{"too few", bucket(1, 5, 1, 9), 9, false, 0, bucket(1, 5, 1, 9)},
		{"enough as time went on", bucket(1, 5, 1, 9), 10, true, 2, bucket(1, 5, 0, 10)},
		{"more than may be", bucket(1, 5, 1, 0), 20, true, 2, bucket(1, 5, 3, 20)},
		{"a bucket of a later time is as it is", bucket(1, 5, 2, 12), 9, true, 2, bucket(1, 5, 0, 12)},
		{"a bucket of a later time, with too few", bucket(1, 5, 1, 12), 9, false, 0, bucket(1, 5, 1, 12)},
		{"at a time above MaxNum it is as it is", bucket(1, 5, 1, 9), impl.MaxNum + 1, false, 0, bucket(1, 5, 1, 9)},
		{"at MaxNum", bucket(1, 5, 1, 9), impl.MaxNum, true, 2, bucket(1, 5, 3, impl.MaxNum)},
	}
	for _, c := range cases {
		m := modelOf(ratePol, trail(5, 3, 6, 1, 2))
		m.B = c.b
		isSo(t, c.name, m, judgeDeed(5, 3, c.keep, c.took, 2, 0, c.now), func(m *impl.Model) {
			m.B = c.want
			closed(m, 0, c.keep)
		})
		isNotSo(t, c.name+", the other way round", m, judgeDeed(5, 3, !c.keep, 2-c.took, 2, 0, c.now))
	}
}

func TestApplyAtTheEndOfTime(t *testing.T) {
	m := modelOf(allPol, trail(5, 3, impl.MaxNum-1, 1))
	isSo(t, "the Deadline ends at MaxNum", m, judgeDeed(5, 3, true, 0, 1, 0, impl.MaxNum), func(m *impl.Model) {
		m.B = bucket(1, 5, 5, impl.MaxNum)
		closed(m, 0, true)
	})
	isNotSo(t, "one tick earlier", m, judgeDeed(5, 3, true, 0, 1, 0, impl.MaxNum-1))
}

func TestATrailThatWasDroppedComesAgain(t *testing.T) {
	m := modelOf(allPol, trail(5, 3, 6, 1))
	m.C.Cache = 1
	m = isSo(t, "dropped", m, dropDeed(5, 3, 1, 0), func(m *impl.Model) { closed(m, 0, false) })
	isNotSo(t, "it comes again, and is known", m, offerDeed(thing(5, 2), impl.CoHeld, 4, 7))
	isSo(t, "it comes again, and is known: gone", m, offerDeed(thing(5, 2), impl.CoGone, 3, 7), nothing)
	m = isSo(t, "another one", m, offerDeed(thing(6, 1), impl.CoHeld, 4, 7), func(m *impl.Model) {
		m.Open, m.Used = []impl.Trail{trail(6, 4, 7, 1)}, 17
	})
	m = isSo(t, "for which it is forgotten", m, dropDeed(6, 4, 1, 5), func(m *impl.Model) { m.Cache = nil; closed(m, 0, false) })
	for _, stamp := range []int{3, 5} {
		isSo(t, "it comes again, as a new one", m, offerDeed(thing(5, 2), impl.CoHeld, stamp, 9), func(m *impl.Model) {
			m.Open, m.Used = []impl.Trail{trail(5, stamp, 9, 2)}, 17
		})
	}
}

func TestApplyOfWrongDeedsAndModels(t *testing.T) {
	right := []impl.Deed{
		offerDeed(impl.Span{}, impl.CoBad, 0, 9), offerDeed(thing(30, 8), impl.CoLate, 1, 9), offerDeed(thing(31, 8), impl.CoGone, 2, 9), offerDeed(thing(5, 8), impl.CoHeld, 3, 9),
		dropDeed(5, 3, 2, 30), judgeDeed(5, 3, false, 0, 2, 30, 9), voidDeed(6, 3), {Op: impl.DeShut, Inv: 4, Lin: 4, Res: 4},
	}
	wrong := map[string]func(d *impl.Deed){
		"Op 0":       func(d *impl.Deed) { d.Op = 0 },
		"Op 5":       func(d *impl.Deed) { d.Op = 5 },
		"Code":       func(d *impl.Deed) { d.Code = 6 },
		"Took":       func(d *impl.Deed) { d.Took = -1 },
		"N":          func(d *impl.Deed) { d.N = -1 },
		"Forgot":     func(d *impl.Deed) { d.Forgot = -1 },
		"Now":        func(d *impl.Deed) { d.Now = -1 },
		"Inv":        func(d *impl.Deed) { d.Inv = -1 },
		"Lin":        func(d *impl.Deed) { d.Lin = 3 },
		"Res":        func(d *impl.Deed) { d.Res = 3 },
		"everything": func(d *impl.Deed) { *d = impl.Deed{} },
	}
	models := []impl.Model{fullModel(), fullModel(), fullModel(), fullModel(), {}}
	models[0].Used++
	models[1].C.Wait = 0
	models[2].B.Rate = 9
	models[3].Cache = append(models[3].Cache, impl.Verdict{Trace: 40, Stamp: 9})
	for i, d := range right {
		if _, ok := impl.Apply(fullModel(), d); !ok {
			t.Errorf("the deed %d is not so", i)
		}
		for name, change := range wrong {
			x := d
			change(&x)
			if impl.DeedOk(x) {
				t.Fatalf("the deed %d, with a wrong %s, is right", i, name)
			}
			isNotSo(t, fmt.Sprintf("the deed %d, with a wrong %s", i, name), fullModel(), x)
		}
		for _, m := range models {
			isNotSo(t, fmt.Sprintf("the deed %d, of a wrong model", i), m, d)
			if got, n := impl.ApplyAll(m, []impl.Deed{d}); n != 0 || differs(got, m) != "" {
				t.Errorf("ApplyAll of the deed %d, of a wrong model: %d", i, n)
			}
		}
	}
	open := offerDeed(thing(5, 8), 0, 3, 9)
	open.Lin, open.Res = -1, -1
	isNotSo(t, "an offer that did not take place", fullModel(), open)
	later := judgeDeed(5, 3, false, 0, 2, 30, 9)
	later.Lin, later.Res = -1, -1
	isSo(t, "when it took place is not looked at", fullModel(), later, func(m *impl.Model) {
		m.B = bucket(1, 5, 5, 9)
		m.Cache = m.Cache[1:]
		closed(m, 1, false)
	})
}

func TestApplyAll(t *testing.T) {
	l := []impl.Deed{
		offerDeed(thing(1, 1), impl.CoHeld, 8, 9), dropDeed(5, 3, 2, 30), offerDeed(thing(5, 9), impl.CoGone, 3, 9), judgeDeed(9, 4, false, 0, 1, 31, 9),
		voidDeed(9, 4), {Op: impl.DeShut, Now: 9}, offerDeed(thing(5, 9), impl.CoShut, 0, 9),
	}
	steps := []impl.Model{fullModel()}
	for i, d := range l {
		next, ok := impl.Apply(steps[i], d)
		if !ok {
			t.Fatalf("the deed %d is not so", i)
		}
		steps = append(steps, next)
	}
	no := voidDeed(2, 7)
	for n := 0; n <= len(l); n++ {
		given, deeds := roomy(fullModel()), roomy(l[:n])
		check := watched(given, deeds)
		got, many := impl.ApplyAll(given, deeds)
		check(t, "ApplyAll")
		apart(t, "ApplyAll", []any{got}, given, deeds)
		if d := differs(got, steps[n]); d != "" || many != n {
			t.Errorf("ApplyAll of %d: %d, %s", n, many, d)
		}
		deeds = roomy(slices.Insert(slices.Clone(l), n, no))
		got, many = impl.ApplyAll(given, deeds)
		apart(t, "ApplyAll, one is not so", []any{got}, given, deeds)
		if d := differs(got, steps[n]); d != "" || many != n {
			t.Errorf("ApplyAll, the deed %d is not so: %d, %s", n, many, d)
		}
	}
	if got, n := impl.ApplyAll(impl.Model{}, l); n != 0 || differs(got, impl.Model{}) != "" {
		t.Errorf("ApplyAll of a model of nothing: %d", n)
	}
}

// Promise 21, of all that comes about in worlds: what is done leaves a right model, which is held against the world.
func TestWhatIsDoneLeavesARightModel(t *testing.T) {
	seen := map[int]int{}
	for round := range 90 {
		c := someConf(round)
		w := impl.Play(impl.WorldNew(c), someEvents(uint32(round)+7, 150))
		m := impl.ModelNew(c)
		for _, i := range impl.Order(w.Deeds) {
			d := w.Deeds[i]
			next, ok := impl.Apply(m, d)
			if !ok || !impl.ModelOk(next) {
				t.Fatalf("round %d: %+v is not so, or leaves no right model: %+v", round, d, m)
			}
			m = next
			seen[10*d.Op+d.Code]++
			if d.Void {
				seen[0]++
			}
		}
		want := impl.Model{C: w.C, Shut: w.Shut, Open: impl.OpenTrails(w.St), Cache: w.Cache, B: w.B, Used: w.Used}
		if d := differs(m, want); d != "" {
			t.Fatalf("round %d: the model is another one than the world: %s", round, d)
		}
	}
	for _, kind := range []int{0, 11, 12, 13, 14, 15, 20, 30, 40} {
		if seen[kind] < 3 {
			t.Errorf("of the kind %d there were %d", kind, seen[kind])
		}
	}
}
