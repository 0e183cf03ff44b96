package tests

import (
	"math"
	"slices"
	"strings"
	"testing"

	"loop.example/g00488/impl"
)

var (
	allPol  = impl.Pol{Kind: impl.PoAll}
	errPol  = impl.Pol{Kind: impl.PoErr}
	ratePol = impl.Pol{Kind: impl.PoRate}
)

func longPol(n int) impl.Pol {
	return impl.Pol{Kind: impl.PoLong, N: n}
}

func textPol(key, text string) impl.Pol {
	return impl.Pol{Kind: impl.PoText, Key: key, Text: text}
}

func numPol(key string, n int) impl.Pol {
	return impl.Pol{Kind: impl.PoNum, Key: key, N: n}
}

func andPol(l ...impl.Pol) impl.Pol {
	return impl.Pol{Kind: impl.PoAnd, L: l}
}

func orPol(l ...impl.Pol) impl.Pol {
	return impl.Pol{Kind: impl.PoOr, L: l}
}

func notPol(l ...impl.Pol) impl.Pol {
	return impl.Pol{Kind: impl.PoNot, L: l}
}

// A rule that is so deep, of nots around p.
func nested(p impl.Pol, deep int) impl.Pol {
	for range deep - 1 {
		p = notPol(p)
	}
	return p
}

func clonePol(p impl.Pol) impl.Pol {
	l := p.L
	p.L = nil
	for _, q := range l {
		p.L = append(p.L, clonePol(q))
	}
	return p
}

func samePols(a, b impl.Pol) bool {
	return a.Kind == b.Kind && a.N == b.N && a.Key == b.Key && a.Text == b.Text && slices.EqualFunc(a.L, b.L, samePols)
}

// One of each kind, and rules in rules, all of them right.
func rightPols() []impl.Pol {
	return []impl.Pol{
		allPol, errPol, longPol(0), longPol(5), longPol(impl.MaxNum), textPol("k", "a"), textPol("abcdefgh", ""), textPol("k", twentyBytes),
		numPol("code", 500), numPol("k", 0), numPol("k", impl.MaxNum), ratePol,
		andPol(allPol), orPol(ratePol), notPol(errPol), andPol(allPol, errPol, ratePol, allPol), orPol(longPol(1), longPol(2)),
		orPol(errPol, andPol(longPol(5), notPol(textPol("k", "a"))), numPol("code", 500)),
		notPol(notPol(notPol(ratePol))),
		andPol(andPol(allPol, allPol, allPol, allPol), orPol(errPol, errPol, errPol), notPol(ratePol)),
	}
}

func TestPolTextByExample(t *testing.T) {
	cases := []struct {
		p    impl.Pol
		text string
	}{
		{allPol, "all"},
		{errPol, "err"},
		{longPol(0), "long 0"},
		{longPol(impl.MaxNum), "long 2147483647"},
		{textPol("k", ""), `text k ""`},
		{textPol("key", "a b"), `text key "a b"`},
		{numPol("code", 500), "num code 500"},
		{ratePol, "rate"},
		{andPol(allPol), "and(all)"},
		{orPol(errPol, ratePol), "or(err, rate)"},
		{notPol(longPol(3)), "not(long 3)"},
		{andPol(allPol, errPol, ratePol, longPol(1)), "and(all, err, rate, long 1)"},
		{orPol(errPol, andPol(longPol(5), notPol(textPol("k", "a, b)"))), numPol("code", 500)), `or(err, and(long 5, not(text k "a, b)")), num code 500)`},
		{orPol(andPol(orPol(allPol, errPol), ratePol), notPol(andPol(longPol(1), longPol(2)))), "or(and(or(all, err), rate), not(and(long 1, long 2)))"},
	}
	for _, c := range cases {
		if got := impl.PolText(c.p); got != c.text {
			t.Errorf("PolText = %q, want %q", got, c.text)
		}
		if !impl.PolOk(c.p) {
			t.Errorf("%s is not PolOk", c.text)
		}
	}
}

func TestPolsThatAreRight(t *testing.T) {
	for i, p := range rightPols() {
		if !impl.PolOk(p) || impl.PolText(p) == "" {
			t.Errorf("rule %d is not right: %+v", i, p)
		}
	}
}

func TestPolsWithSomethingBesideIt(t *testing.T) {
	beside := map[string]func(p *impl.Pol) bool{
		"N 1":       func(p *impl.Pol) bool { p.N = 1; return p.Kind == impl.PoLong || p.Kind == impl.PoNum },
		"N below 0": func(p *impl.Pol) bool { p.N = -1; return false },
		"a Key":     func(p *impl.Pol) bool { p.Key = "x"; return p.Kind == impl.PoText || p.Kind == impl.PoNum },
		"a Text":    func(p *impl.Pol) bool { p.Text = "x"; return p.Kind == impl.PoText },
		"a rule":    func(p *impl.Pol) bool { p.L = []impl.Pol{allPol}; return p.Kind >= impl.PoAnd },
	}
	for _, p := range []impl.Pol{allPol, errPol, longPol(2), textPol("k", "a"), numPol("k", 2), ratePol, andPol(allPol), orPol(allPol), notPol(allPol)} {
		for name, set := range beside {
			q := clonePol(p)
			want := set(&q)
			if got := impl.PolOk(q); got != want {
				t.Errorf("Kind %d with %s: PolOk is %v", p.Kind, name, got)
			}
			if got := impl.PolText(q); (got != "") != want {
				t.Errorf("Kind %d with %s: PolText is %q", p.Kind, name, got)
			}
			if got := impl.PolOk(notPol(q)); got != want {
				t.Errorf("Kind %d with %s, in a not: PolOk is %v", p.Kind, name, got)
			}
		}
	}
}

func TestPolsThatAreNotRight(t *testing.T) {
	cases := map[string]impl.Pol{
		"the zero one":          {},
		"Kind 0 with a rule":    {L: []impl.Pol{allPol}},
		"Kind 10":               {Kind: 10},
		"Kind 10 with a rule":   {Kind: 10, L: []impl.Pol{allPol}},
		"Kind below 0":          {Kind: -1},
		"the least Kind":        {Kind: math.MinInt},
		"the greatest Kind":     {Kind: math.MaxInt},
		"long above MaxNum":     longPol(impl.MaxNum + 1),
		"long below 0":          longPol(-1),
		"num above MaxNum":      numPol("k", impl.MaxNum+1),
		"num below 0":           numPol("k", -1),
		"num of no name":        numPol("", 1),
		"num of 9 letters":      numPol("abcdefghi", 1),
		"text of no name":       textPol("", "a"),
		"text of a wrong name":  textPol("K", "a"),
		"text of 21 bytes":      textPol("k", twentyBytes+"x"),
		"text with a quote":     textPol("k", `"`),
		"text with byte 31":     textPol("k", "\x1f"),
		"text with byte 127":    textPol("k", "\x7f"),
		"and of none":           andPol(),
		"or of none":            orPol(),
		"not of none":           notPol(),
		"and of 5":              andPol(allPol, allPol, allPol, allPol, allPol),
		"or of 5":               orPol(allPol, allPol, allPol, allPol, allPol),
		"not of two":            notPol(allPol, allPol),
		"a wrong one, first":    andPol(longPol(-1), allPol),
		"a wrong one, last":     andPol(allPol, allPol, allPol, longPol(-1)),
		"a wrong one deep in":   orPol(allPol, notPol(andPol(impl.Pol{Kind: 10}))),
		"an and of none in one": andPol(andPol()),
	}
	for name, p := range cases {
		if impl.PolOk(p) {
			t.Errorf("%s is right", name)
		}
		if got := impl.PolText(p); got != "" {
			t.Errorf("%s: PolText is %q", name, got)
		}
	}
}

func TestHowDeepRulesMayBe(t *testing.T) {
	for deep := 1; deep <= 6; deep++ {
		if got, want := impl.PolOk(nested(allPol, deep)), deep <= 4; got != want {
			t.Errorf("%d deep: PolOk is %v", deep, got)
		}
		if got, want := impl.PolOk(andPol(allPol, nested(allPol, deep))), deep <= 3; got != want {
			t.Errorf("%d deep as the second one: PolOk is %v", deep, got)
		}
		if got := impl.PolText(nested(ratePol, deep)); deep <= 4 && got != strings.Repeat("not(", deep-1)+"rate"+strings.Repeat(")", deep-1) {
			t.Errorf("%d deep: PolText is %q", deep, got)
		}
	}
}

func TestHowManyRulesThereMayBe(t *testing.T) {
	four := andPol(allPol, allPol, allPol, allPol)
	three := orPol(allPol, allPol, allPol)
	cases := []struct {
		p     impl.Pol
		count int
		ok    bool
	}{
		{allPol, 1, true},
		{four, 5, true},
		{andPol(four, three), 10, true},
		{andPol(four, four), 11, true},
		{andPol(four, three, allPol, allPol), 12, true},
		{andPol(four, four, allPol), 12, true},
		{andPol(four, four, allPol, allPol), 13, false},
		{notPol(andPol(four, four)), 12, true},
		{notPol(andPol(four, four, allPol)), 13, false},
		{andPol(four, four, four, four), 21, false},
	}
	for i, c := range cases {
		if got := impl.PolCount(c.p); got != c.count {
			t.Errorf("PolCount of rule %d is %d, want %d", i, got, c.count)
		}
		if got := impl.PolOk(c.p); got != c.ok {
			t.Errorf("rule %d, %d in all: PolOk is %v", i, c.count, got)
		}
		if got := impl.PolText(c.p); (got != "") != c.ok {
			t.Errorf("rule %d, %d in all: PolText is %q", i, c.count, got)
		}
	}
}

// What is not right is counted and looked through all the same.
func TestPolCountAndHasRateOfAnything(t *testing.T) {
	cases := []struct {
		name  string
		p     impl.Pol
		count int
		rate  bool
	}{
		{"the zero one", impl.Pol{}, 1, false},
		{"rate", ratePol, 1, true},
		{"not(rate)", notPol(ratePol), 2, true},
		{"rate, last of all", orPol(allPol, andPol(errPol, notPol(ratePol))), 6, true},
		{"rate, first of all", orPol(ratePol, allPol), 3, true},
		{"all others", orPol(allPol, errPol, longPol(6), textPol("rate", "rate"), numPol("k", 6)), 6, false},
		{"of none", andPol(), 1, false},
		{"a rate in an all", impl.Pol{Kind: impl.PoAll, L: []impl.Pol{ratePol}}, 2, true},
		{"a rate in another Kind", impl.Pol{Kind: 10, L: []impl.Pol{allPol, ratePol}}, 3, true},
		{"a not of two", notPol(allPol, ratePol), 3, true},
		{"a rate that is not right", impl.Pol{Kind: impl.PoRate, N: -1, L: []impl.Pol{{}, {}}}, 3, true},
		{"many", andPol(slices.Repeat([]impl.Pol{allPol}, 10000)...), 10001, false},
	}
	for _, c := range cases {
		if got := impl.PolCount(c.p); got != c.count {
			t.Errorf("PolCount of %s is %d, want %d", c.name, got, c.count)
		}
		if got := impl.HasRate(c.p); got != c.rate {
			t.Errorf("HasRate of %s is %v", c.name, got)
		}
	}
}

// Promise 5, and that no two of a list of different ones are the same.
func TestEachRuleIsTheSameAsItself(t *testing.T) {
	l := append(rightPols(), impl.Pol{}, impl.Pol{Kind: 10}, impl.Pol{Kind: -1, N: -1, Key: "\xff", Text: "\"", L: []impl.Pol{{}, {}}},
		andPol(), notPol(allPol, allPol), nested(ratePol, 30), andPol(slices.Repeat([]impl.Pol{errPol}, 100)...),
		// The same rules in the same order, but not the same ones in each other.
		andPol(andPol(allPol, errPol), ratePol), andPol(andPol(allPol), errPol, ratePol), andPol(andPol(), allPol, errPol, ratePol), andPol(andPol(allPol, errPol, ratePol)))
	for i, a := range l {
		for j, b := range l {
			if got := impl.SamePol(a, clonePol(b)); got != (i == j) {
				t.Errorf("SamePol(%+v, %+v) is %v", a, b, got)
			}
		}
	}
	if !impl.SamePol(impl.Pol{Kind: impl.PoAnd, L: nil}, impl.Pol{Kind: impl.PoAnd, L: []impl.Pol{}}) {
		t.Error("nil and empty are not the same")
	}
}

func TestSamePolByParts(t *testing.T) {
	changes := map[string]func(p *impl.Pol){
		"Kind":       func(p *impl.Pol) { p.Kind++ },
		"N":          func(p *impl.Pol) { p.N++ },
		"Key":        func(p *impl.Pol) { p.Key += "x" },
		"Text":       func(p *impl.Pol) { p.Text += " " },
		"one more":   func(p *impl.Pol) { p.L = append(p.L, allPol) },
		"a zero one": func(p *impl.Pol) { p.L = append(p.L, impl.Pol{}) },
	}
	make3 := func() impl.Pol {
		return orPol(errPol, andPol(longPol(5), notPol(textPol("k", "a")), ratePol), numPol("code", 500))
	}
	places := map[string]func(p *impl.Pol) *impl.Pol{
		"itself":          func(p *impl.Pol) *impl.Pol { return p },
		"the first in it": func(p *impl.Pol) *impl.Pol { return &p.L[0] },
		"the last in it":  func(p *impl.Pol) *impl.Pol { return &p.L[2] },
		"one deep in it":  func(p *impl.Pol) *impl.Pol { return &p.L[1].L[1].L[0] },
	}
	for where, place := range places {
		for what, change := range changes {
			a, b := make3(), make3()
			change(place(&b))
			if impl.SamePol(a, b) || impl.SamePol(b, a) {
				t.Errorf("they differ in %s of %s, and are the same", what, where)
			}
		}
	}
	a, b := make3(), make3()
	slices.Reverse(b.L[1].L)
	if impl.SamePol(a, b) {
		t.Error("they differ in an order deep inside, and are the same")
	}
	b = make3()
	b.L[1].L = b.L[1].L[:2]
	if impl.SamePol(a, b) || impl.SamePol(b, a) {
		t.Error("one has one fewer deep inside, and they are the same")
	}
}

func TestRulesAreLeftAsTheyWere(t *testing.T) {
	for _, p := range append(rightPols(), notPol(allPol, ratePol), impl.Pol{Kind: 10, L: []impl.Pol{allPol, errPol}}) {
		before := clonePol(p)
		impl.PolOk(p)
		impl.PolText(p)
		impl.PolCount(p)
		impl.HasRate(p)
		impl.SamePol(p, p)
		if !samePols(p, before) {
			t.Errorf("%+v was changed to %+v", before, p)
		}
	}
}

// How deep a rule may be is PolOk's business alone.
func TestRulesAreNeverTooDeep(t *testing.T) {
	for _, deep := range []int{1000, 1<<20 - 1, 1 << 20, 1<<20 + 1, 1<<20 + 2} {
		p, q := nested(ratePol, deep), nested(allPol, deep)
		if impl.PolOk(p) || impl.PolText(p) != "" {
			t.Errorf("%d deep: it is right", deep)
		}
		if got := impl.PolCount(p); got != deep {
			t.Errorf("PolCount is %d, want %d", got, deep)
		}
		if !impl.HasRate(p) || impl.HasRate(q) {
			t.Errorf("%d deep: HasRate does not look at the innermost one", deep)
		}
		if !impl.SamePol(p, p) || impl.SamePol(p, q) || impl.SamePol(p, nested(ratePol, deep+1)) {
			t.Errorf("%d deep: SamePol does not look at the innermost one", deep)
		}
	}
}

func TestRulesBehindDeepOnes(t *testing.T) {
	const deep = 1<<20 + 1
	p, q := orPol(nested(allPol, deep), ratePol), orPol(nested(allPol, deep), errPol)
	if got := impl.PolCount(p); got != deep+2 {
		t.Errorf("PolCount is %d, want %d", got, deep+2)
	}
	if !impl.HasRate(p) || impl.HasRate(q) || impl.SamePol(p, q) {
		t.Error("what stands behind a deep rule is not looked at")
	}
}

// Rules that lie side by side in memory, each in the next one, are as deep as any others; none is in itself.
func TestRulesOfOnePieceOfMemory(t *testing.T) {
	for _, n := range []int{2, 3, 4, 5, 8, 9, 100, 1025} {
		l := make([]impl.Pol, n)
		l[0] = ratePol
		for i := 1; i < n; i++ {
			l[i] = orPol(l[i-1 : i]...)
		}
		if got := impl.PolCount(l[n-1]); got != n || !impl.HasRate(l[n-1]) {
			t.Errorf("PolCount is %d, want %d", got, n)
		}
		if got := impl.PolCount(andPol(l[n-1], l[n-1])); got != 2*n+1 {
			t.Errorf("one that is twice there: PolCount is %d, want %d", got, 2*n+1)
		}
	}
}

// A list that holds itself makes a rule without an end; all that can be asked is that each call has one, and what is clear ahead of that.
func TestRulesWithoutAnEnd(t *testing.T) {
	l := make([]impl.Pol, 2)
	l[0] = andPol(l...)
	l[1] = orPol(l...)
	if impl.PolOk(l[0]) || impl.PolText(l[0]) != "" {
		t.Error("it is right")
	}
	if impl.HasRate(l[0]) {
		t.Error("it has a rate")
	}
	if impl.PolCount(l[0]) < 2 {
		t.Error("it is short")
	}
	if !impl.SamePol(l[0], l[0]) {
		t.Error("it is not the same as itself")
	}
}

func TestRulesThatLeadIntoARound(t *testing.T) {
	for ahead := range 12 {
		for round := 1; round < 12; round++ {
			l := make([]impl.Pol, ahead+round)
			for i := range l {
				next := i + 1
				if next == len(l) {
					next = ahead
				}
				l[i] = andPol(l[next : next+1]...)
			}
			p := orPol(ratePol, l[0])
			if impl.PolOk(p) || !impl.HasRate(p) || impl.HasRate(l[0]) || impl.PolCount(l[0]) < ahead+round {
				t.Errorf("%d, then a round of %d", ahead, round)
			}
			if !impl.SamePol(p, p) || impl.SamePol(p, orPol(errPol, l[0])) {
				t.Errorf("%d, then a round of %d: SamePol", ahead, round)
			}
		}
	}
}

func TestRuleNumbers(t *testing.T) {
	kinds := []int{impl.PoAll, impl.PoErr, impl.PoLong, impl.PoText, impl.PoNum, impl.PoRate, impl.PoAnd, impl.PoOr, impl.PoNot}
	if !slices.Equal(kinds, []int{1, 2, 3, 4, 5, 6, 7, 8, 9}) {
		t.Errorf("the kinds are %v", kinds)
	}
	if impl.MaxDeep != 4 || impl.MaxPols != 12 {
		t.Errorf("MaxDeep is %d, MaxPols %d", impl.MaxDeep, impl.MaxPols)
	}
}
