package tests

import (
	"fmt"
	"math"
	"slices"
	"testing"

	"loop.example/g00488/impl"
)

func rightConf() impl.Conf {
	return impl.Conf{Stripes: 2, Wait: 3, Budget: 90, Cache: 2, Queue: 2, Rate: 1, Burst: 3, Rule: orPol(errPol, notPol(andPol(longPol(5), ratePol)))}
}

// The numbers of a set-up, and what each of them may be.
func confNumbers(c *impl.Conf) map[string]struct {
	n           *int
	least, most int
} {
	return map[string]struct {
		n           *int
		least, most int
	}{
		"Stripes": {&c.Stripes, 1, 3},
		"Wait":    {&c.Wait, 1, 50},
		"Budget":  {&c.Budget, 1, 190},
		"Cache":   {&c.Cache, 1, 6},
		"Queue":   {&c.Queue, 1, 4},
		"Rate":    {&c.Rate, 0, 99},
		"Burst":   {&c.Burst, 0, 999},
	}
}

func wantedConfText(c impl.Conf) string {
	return fmt.Sprintf("stripes %d wait %d budget %d cache %d queue %d rate %d burst %d rule %s", c.Stripes, c.Wait, c.Budget, c.Cache, c.Queue, c.Rate, c.Burst, impl.PolText(c.Rule))
}

func TestConfOkAtEveryEdge(t *testing.T) {
	for name := range confNumbers(new(impl.Conf)) {
		c := rightConf()
		x := confNumbers(&c)[name]
		for _, n := range []int{math.MinInt, -1, 0, 1, 2, x.least - 1, x.least, x.least + 1, x.most - 1, x.most, x.most + 1, 1000, math.MaxInt} {
			*x.n = n
			want := n >= x.least && n <= x.most
			if got := impl.ConfOk(c); got != want {
				t.Errorf("ConfOk, %s is %d: %v", name, n, got)
			}
			text := ""
			if want {
				text = wantedConfText(c)
			}
			if got := impl.ConfText(c); got != text {
				t.Errorf("ConfText, %s is %d: %q", name, n, got)
			}
		}
	}
	if impl.ConfOk(impl.Conf{}) || impl.ConfText(impl.Conf{}) != "" {
		t.Error("the zero one is right")
	}
}

func TestConfOkAsksForARightRule(t *testing.T) {
	for _, p := range rightPols() {
		c := rightConf()
		c.Rule = p
		if !impl.ConfOk(c) || impl.ConfText(c) != wantedConfText(c) {
			t.Errorf("with %+v it is not right", p)
		}
	}
	wrong := map[string]impl.Pol{
		"the zero one":     {},
		"a wrong kind":     {Kind: 10},
		"too deep":         nested(errPol, 5),
		"much too deep":    nested(errPol, 300000),
		"too many":         andPol(andPol(slices.Repeat([]impl.Pol{errPol}, 4)...), orPol(slices.Repeat([]impl.Pol{errPol}, 4)...), notPol(errPol)),
		"too many in one":  orPol(slices.Repeat([]impl.Pol{errPol}, 5)...),
		"an and of none":   andPol(),
		"a wrong one deep": notPol(orPol(errPol, longPol(-1))),
		"more than named":  {Kind: impl.PoErr, N: 1},
	}
	for name, p := range wrong {
		c := rightConf()
		c.Rule = p
		if impl.ConfOk(c) || impl.ConfText(c) != "" {
			t.Errorf("%s: it is right", name)
		}
	}
	deepest := rightConf()
	deepest.Rule = nested(errPol, 4)
	if !impl.ConfOk(deepest) {
		t.Error("a rule 4 deep is not right")
	}
}

func TestConfTextByExample(t *testing.T) {
	c := rightConf()
	if got, want := impl.ConfText(c), "stripes 2 wait 3 budget 90 cache 2 queue 2 rate 1 burst 3 rule or(err, not(and(long 5, rate)))"; got != want {
		t.Errorf("ConfText is %q, want %q", got, want)
	}
	c = impl.Conf{Stripes: 3, Wait: 50, Budget: 190, Cache: 6, Queue: 4, Rate: 99, Burst: 999, Rule: textPol("k", "a b")}
	if got, want := impl.ConfText(c), `stripes 3 wait 50 budget 190 cache 6 queue 4 rate 99 burst 999 rule text k "a b"`; got != want {
		t.Errorf("ConfText is %q, want %q", got, want)
	}
	c = impl.Conf{Stripes: 1, Wait: 1, Budget: 1, Cache: 1, Queue: 1, Rule: allPol}
	if got, want := impl.ConfText(c), "stripes 1 wait 1 budget 1 cache 1 queue 1 rate 0 burst 0 rule all"; got != want {
		t.Errorf("ConfText is %q, want %q", got, want)
	}
}

func TestSameConfByParts(t *testing.T) {
	changes := map[string]func(c *impl.Conf){
		"a rule":               func(c *impl.Conf) { c.Rule = errPol },
		"a kind in the rule":   func(c *impl.Conf) { c.Rule.L[0].Kind++ },
		"a number deep in it":  func(c *impl.Conf) { c.Rule.L[1].L[0].L[0].N++ },
		"a name deep in it":    func(c *impl.Conf) { c.Rule.L[1].L[0].L[0].Key = "k" },
		"a text deep in it":    func(c *impl.Conf) { c.Rule.L[1].L[0].L[1].Text = "k" },
		"one more deep in it":  func(c *impl.Conf) { c.Rule.L[1].L[0].L = append(c.Rule.L[1].L[0].L, allPol) },
		"one fewer deep in it": func(c *impl.Conf) { c.Rule.L[1].L[0].L = c.Rule.L[1].L[0].L[:1] },
	}
	for name := range confNumbers(new(impl.Conf)) {
		changes[name] = func(c *impl.Conf) { *confNumbers(c)[name].n++ }
		changes[name+", far out"] = func(c *impl.Conf) { *confNumbers(c)[name].n = math.MinInt }
	}
	if !impl.SameConf(rightConf(), rightConf()) || !impl.SameConf(impl.Conf{}, impl.Conf{Rule: impl.Pol{L: []impl.Pol{}}}) {
		t.Error("it is not the same as itself")
	}
	for name, change := range changes {
		a, b, same := rightConf(), rightConf(), rightConf()
		change(&b)
		change(&same)
		if impl.SameConf(a, b) || impl.SameConf(b, a) {
			t.Errorf("they differ in %s, and are the same", name)
		}
		if !impl.SameConf(b, same) {
			t.Errorf("with another %s it is not the same as itself", name)
		}
	}
	deep := rightConf()
	deep.Rule = nested(ratePol, 200000)
	deeper := rightConf()
	deeper.Rule = nested(errPol, 200000)
	if impl.SameConf(deep, deeper) || !impl.SameConf(deep, deep) {
		t.Error("what is very deep in the rule is not looked at")
	}
}

// Promise 13.
func TestWhatFitsIsRightAndHasRoom(t *testing.T) {
	spans := []impl.Span{{}, thing(1, 1), thing(1000, 1), thing(0, 1), rightSpan(), fullSpan(), {Trace: 1, Id: 1}, {Trace: 1, Id: 1, Start: 2, End: 1}, {Trace: 1, Id: 1, Attrs: []impl.Attr{textAttr("k", twentyBytes+"x")}}}
	full := fullSpan()
	full.Attrs = append(full.Attrs, numAttr("n", 1))
	spans = append(spans, full)
	for _, s := range spans {
		size := impl.SizeOf(s)
		for _, budget := range []int{math.MinInt, -1, 0, 1, size - 1, size, size + 1, 190, 191, math.MaxInt} {
			c := rightConf()
			c.Budget = budget
			want := impl.SpanOk(s) && size <= budget
			if got := impl.Fits(c, s); got != want {
				t.Errorf("Fits, %+v into %d: %v", s, budget, got)
			}
		}
	}
	if !impl.Fits(impl.Conf{Budget: 96}, fullSpan()) || impl.Fits(impl.Conf{Budget: 95}, fullSpan()) {
		t.Error("what else is set up has a part in it")
	}
}

func TestDeadline(t *testing.T) {
	cases := []struct{ wait, first, want int }{
		{3, 0, 3}, {3, 5, 8}, {50, 100, 150}, {1, impl.MaxNum - 1, impl.MaxNum}, {1, impl.MaxNum, impl.MaxNum}, {3, impl.MaxNum - 3, impl.MaxNum}, {3, impl.MaxNum - 4, impl.MaxNum - 1},
		{3, impl.MaxNum - 2, impl.MaxNum}, {3, impl.MaxNum + 9, impl.MaxNum}, {3, math.MaxInt, impl.MaxNum}, {3, -1, 3}, {3, -100, 3}, {3, math.MinInt, 3},
		{0, 5, 5}, {-4, 5, 5}, {math.MinInt, 5, 5}, {math.MaxInt, 5, impl.MaxNum}, {math.MaxInt, math.MaxInt, impl.MaxNum},
	}
	for _, c := range cases {
		x := rightConf()
		x.Wait = c.wait
		if got := impl.Deadline(x, c.first); got != c.want {
			t.Errorf("Deadline, %d after %d: %d, want %d", c.wait, c.first, got, c.want)
		}
	}
}

func TestConfsAreLeftAsTheyWere(t *testing.T) {
	c, s := rightConf(), roomy(rightSpan())
	before := clonePol(c.Rule)
	check := watched(s)
	impl.ConfOk(c)
	impl.SameConf(c, c)
	impl.Fits(c, s)
	impl.Deadline(c, 5)
	impl.ConfText(c)
	check(t, "they")
	if !samePols(c.Rule, before) {
		t.Error("the rule was changed")
	}
}
