package tests

import (
	"math"
	"slices"
	"testing"

	"loop.example/g00488/impl"
)

func TestDeedConstants(t *testing.T) {
	codes := []int{impl.CoHeld, impl.CoLate, impl.CoGone, impl.CoShut, impl.CoBad}
	ops := []int{impl.DeOffer, impl.DeJudge, impl.DeDrop, impl.DeShut}
	if !slices.Equal(codes, []int{1, 2, 3, 4, 5}) || !slices.Equal(ops, []int{1, 2, 3, 4}) {
		t.Errorf("the codes are %v, the deeds %v", codes, ops)
	}
}

// An offer that was held and is done.
func heldDeed() impl.Deed {
	return impl.Deed{Op: impl.DeOffer, Task: 1, S: rightSpan(), Trace: 7, Stamp: 3, Code: impl.CoHeld, Took: 1, N: 2, Forgot: 4, Now: 6, Inv: 5, Lin: 8, Res: 9}
}

func TestDeedOkByNumbers(t *testing.T) {
	for op := -1; op <= 6; op++ {
		d := impl.Deed{Op: op, Inv: 5, Lin: -1, Res: -1}
		if got, want := impl.DeedOk(d), op >= 1 && op <= 4; got != want {
			t.Errorf("Op %d: %v", op, got)
		}
	}
	numbers := map[string]func(d *impl.Deed) *int{
		"Took":   func(d *impl.Deed) *int { return &d.Took },
		"N":      func(d *impl.Deed) *int { return &d.N },
		"Forgot": func(d *impl.Deed) *int { return &d.Forgot },
		"Now":    func(d *impl.Deed) *int { return &d.Now },
	}
	for name, number := range numbers {
		for n, want := range map[int]bool{math.MinInt: false, -1: false, 0: true, 1: true, impl.MaxNum + 1: true, math.MaxInt: true} {
			d := heldDeed()
			*number(&d) = n
			if got := impl.DeedOk(d); got != want {
				t.Errorf("%s is %d: %v", name, n, got)
			}
		}
	}
}

func TestDeedOkByCode(t *testing.T) {
	for code := -1; code <= 7; code++ {
		for op := 1; op <= 4; op++ {
			for _, lin := range []int{-1, 5} {
				d := impl.Deed{Op: op, Code: code, Inv: 5, Lin: lin, Res: -1}
				want := code == 0
				if op == impl.DeOffer && lin != -1 {
					want = code >= 1 && code <= 5
				}
				if got := impl.DeedOk(d); got != want {
					t.Errorf("Op %d, Lin %d, Code %d: %v", op, lin, code, got)
				}
			}
		}
	}
}

func TestDeedOkBySteps(t *testing.T) {
	cases := []struct {
		inv, lin, res int
		want          bool
	}{
		{0, 0, 0, true}, {0, -1, -1, true}, {0, 0, -1, true}, {5, 5, 5, true}, {5, 6, 7, true}, {5, 6, 6, true}, {5, 6, -1, true}, {5, -1, -1, true},
		{0, math.MaxInt, math.MaxInt, true}, {math.MaxInt, -1, -1, true},
		{-1, -1, -1, false}, {-1, 0, 0, false}, {-5, -1, -1, false}, {math.MinInt, -1, -1, false},
		{5, 4, 7, false}, {5, 4, -1, false}, {5, 0, -1, false}, {5, -2, -1, false}, {0, -2, -1, false}, {5, math.MinInt, -1, false},
		{5, 6, 5, false}, {5, 6, 0, false}, {5, 6, -2, false}, {5, 6, math.MinInt, false},
		{5, -1, 0, false}, {5, -1, 5, false}, {5, -1, 7, false}, {5, -1, -2, false}, {0, -1, math.MinInt, false}, {0, -2, -2, false},
	}
	for _, c := range cases {
		for op := 1; op <= 4; op++ {
			d := impl.Deed{Op: op, Inv: c.inv, Lin: c.lin, Res: c.res}
			if op == impl.DeOffer && c.lin != -1 {
				d.Code = impl.CoGone
			}
			if got := impl.DeedOk(d); got != c.want {
				t.Errorf("Op %d, %+v: %v", op, c, got)
			}
		}
	}
}

// What DeedOk does not name may be anything.
func TestDeedOkLooksAtNothingElse(t *testing.T) {
	d := heldDeed()
	d.Task, d.S, d.Trace, d.Stamp, d.Keep, d.Void = -9, impl.Span{Trace: -1}, 5000, -5, true, true
	if !impl.DeedOk(d) || !impl.DeedOk(heldDeed()) || impl.DeedOk(impl.Deed{}) {
		t.Error("something else has a part in it")
	}
}

func TestSameDeedByParts(t *testing.T) {
	changes := map[string]func(d *impl.Deed){
		"Op":           func(d *impl.Deed) { d.Op++ },
		"Task":         func(d *impl.Deed) { d.Task++ },
		"S":            func(d *impl.Deed) { d.S.Id++ },
		"what is said": func(d *impl.Deed) { d.S.Attrs[1].Text += "x" },
		"less is said": func(d *impl.Deed) { d.S.Attrs = d.S.Attrs[:1] },
		"Trace":        func(d *impl.Deed) { d.Trace++ },
		"Stamp":        func(d *impl.Deed) { d.Stamp++ },
		"Code":         func(d *impl.Deed) { d.Code++ },
		"Keep":         func(d *impl.Deed) { d.Keep = true },
		"Void":         func(d *impl.Deed) { d.Void = true },
		"Took":         func(d *impl.Deed) { d.Took++ },
		"N":            func(d *impl.Deed) { d.N++ },
		"Forgot":       func(d *impl.Deed) { d.Forgot++ },
		"Now":          func(d *impl.Deed) { d.Now++ },
		"Inv":          func(d *impl.Deed) { d.Inv++ },
		"Lin":          func(d *impl.Deed) { d.Lin++ },
		"Res":          func(d *impl.Deed) { d.Res++ },
		"Took and N":   func(d *impl.Deed) { d.Took, d.N = d.N, d.Took },
	}
	if !impl.SameDeed(heldDeed(), heldDeed()) || !impl.SameDeed(impl.Deed{}, impl.Deed{S: impl.Span{Attrs: []impl.Attr{}}}) {
		t.Error("it is not the same as itself")
	}
	for name, change := range changes {
		a, b, same := heldDeed(), heldDeed(), heldDeed()
		change(&b)
		change(&same)
		if impl.SameDeed(a, b) || impl.SameDeed(b, a) {
			t.Errorf("they differ in %s, and are the same", name)
		}
		if !impl.SameDeed(b, same) {
			t.Errorf("with another %s it is not the same as itself", name)
		}
	}
}

func deedsAt(lins ...int) []impl.Deed {
	out := []impl.Deed{}
	for i, lin := range lins {
		out = append(out, impl.Deed{Op: impl.DeJudge, Task: i, Lin: lin})
	}
	return out
}

func TestOrderByExample(t *testing.T) {
	cases := []struct{ lins, want []int }{
		{nil, nil},
		{[]int{-1}, nil},
		{[]int{-1, -1, -1}, nil},
		{[]int{0}, []int{0}},
		{[]int{4}, []int{0}},
		{[]int{1, 2, 3}, []int{0, 1, 2}},
		{[]int{3, 2, 1}, []int{2, 1, 0}},
		{[]int{5, -1, 3, 5, -1, 0}, []int{5, 2, 0, 3}},
		{[]int{4, 4, 4, 4}, []int{0, 1, 2, 3}},
		{[]int{4, 2, 4, 2, 4, 2}, []int{1, 3, 5, 0, 2, 4}},
		{[]int{-1, 7, -1, 7, -1, 6}, []int{5, 1, 3}},
		{[]int{math.MaxInt, 0, math.MaxInt, -1}, []int{1, 0, 2}},
	}
	for _, c := range cases {
		if got := impl.Order(deedsAt(c.lins...)); !slices.Equal(got, c.want) {
			t.Errorf("Order of %v is %v, want %v", c.lins, got, c.want)
		}
	}
	if got := impl.Order([]impl.Deed{}); len(got) != 0 {
		t.Errorf("Order of nothing is %v", got)
	}
}

// Promise 15.
func TestWhatTookPlaceStandsInItsOrder(t *testing.T) {
	seed := uint32(1)
	for size := range 120 {
		lins := []int{}
		for range size {
			seed = seed*1664525 + 1013904223
			lins = append(lins, int(seed>>16)%(1+size/2)-1)
		}
		got := impl.Order(deedsAt(lins...))
		there := make([]int, size)
		for i, place := range got {
			there[place]++
			if i == 0 {
				continue
			}
			ahead := got[i-1]
			if lins[ahead] > lins[place] || lins[ahead] == lins[place] && ahead > place {
				t.Fatalf("Order of %v is %v: %d stands ahead of %d", lins, got, ahead, place)
			}
		}
		for place, lin := range lins {
			want := 1
			if lin == -1 {
				want = 0
			}
			if there[place] != want {
				t.Fatalf("Order of %v is %v: %d is there %d times", lins, got, place, there[place])
			}
		}
	}
}

func TestAhead(t *testing.T) {
	cases := []struct {
		res, inv int
		want     bool
	}{
		{-1, 0, false}, {-1, 5, false}, {-1, -1, false}, {-1, math.MaxInt, false}, {5, 5, false}, {4, 5, true}, {6, 5, false}, {0, 1, true}, {0, 0, false}, {0, math.MaxInt, true}, {math.MaxInt, 0, false},
		{math.MaxInt, math.MinInt, false},
	}
	for _, c := range cases {
		if got := impl.Ahead(impl.Deed{Inv: 0, Lin: 0, Res: c.res}, impl.Deed{Inv: c.inv, Lin: -1, Res: -1}); got != c.want {
			t.Errorf("Ahead, done at %d, begun at %d: %v", c.res, c.inv, got)
		}
	}
	if impl.Ahead(heldDeed(), heldDeed()) || impl.Ahead(impl.Deed{}, impl.Deed{}) {
		t.Error("it is ahead of itself")
	}
}

func TestCodeName(t *testing.T) {
	names := map[int]string{1: "held", 2: "late", 3: "gone", 4: "shut", 5: "bad"}
	for _, n := range []int{math.MinInt, -1, 0, 1, 2, 3, 4, 5, 6, math.MaxInt} {
		if got := impl.CodeName(n); got != names[n] {
			t.Errorf("CodeName(%d) is %q", n, got)
		}
	}
}

func TestDeedsAreLeftAsTheyWere(t *testing.T) {
	l := roomy(append(deedsAt(5, 3, -1, 3), heldDeed()))
	check := watched(l)
	got := impl.Order(l)
	impl.DeedOk(l[4])
	impl.SameDeed(l[4], l[3])
	impl.Ahead(l[4], l[3])
	check(t, "they")
	apart(t, "Order", []any{got}, l)
	if !slices.Equal(got, []int{1, 3, 0, 4}) {
		t.Errorf("Order is %v", got)
	}
}
