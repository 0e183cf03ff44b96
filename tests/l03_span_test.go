package tests

import (
	"math"
	"slices"
	"strings"
	"testing"

	"loop.example/g00488/impl"
)

func rightSpan() impl.Span {
	return impl.Span{Trace: 7, Id: 2, Start: 3, End: 8, Err: true, Attrs: []impl.Attr{numAttr("code", 200), textAttr("k", "v")}}
}

// A thing of 96 bytes, the most that there may be.
func fullSpan() impl.Span {
	return impl.Span{Trace: 1, Id: 1, Attrs: []impl.Attr{textAttr("aaaaaaaa", twentyBytes), textAttr("bbbbbbbb", twentyBytes), textAttr("cccccccc", twentyBytes)}}
}

func cloneSpan(s impl.Span) impl.Span {
	s.Attrs = slices.Clone(s.Attrs)
	return s
}

func cloneSpans(l []impl.Span) []impl.Span {
	out := make([]impl.Span, len(l))
	for i, s := range l {
		out[i] = cloneSpan(s)
	}
	return out
}

func sameSpans(l, m []impl.Span) bool {
	return slices.EqualFunc(l, m, func(a, b impl.Span) bool {
		return a.Trace == b.Trace && a.Id == b.Id && a.Start == b.Start && a.End == b.End && a.Err == b.Err && slices.Equal(a.Attrs, b.Attrs)
	})
}

func TestSpansByExample(t *testing.T) {
	cases := []struct {
		s            impl.Span
		size, length int
		text         string
	}{
		{rightSpan(), 22, 5, `7/2 3-8 failed code=200 k="v"`},
		{impl.Span{Trace: 1, Id: 1}, 12, 0, "1/1 0-0"},
		{impl.Span{Trace: 1, Id: 1, Err: true}, 12, 0, "1/1 0-0 failed"},
		{impl.Span{Trace: 999, Id: 999, Start: 99999, End: 99999}, 12, 0, "999/999 99999-99999"},
		{impl.Span{Trace: 999, Id: 1, Start: 0, End: 99999, Attrs: []impl.Attr{}}, 12, 99999, "999/1 0-99999"},
		{impl.Span{Trace: 10, Id: 20, Start: 4, End: 5, Attrs: []impl.Attr{textAttr("k", "")}}, 13, 1, `10/20 4-5 k=""`},
		{fullSpan(), 96, 0, `1/1 0-0 aaaaaaaa="` + twentyBytes + `" bbbbbbbb="` + twentyBytes + `" cccccccc="` + twentyBytes + `"`},
	}
	for _, c := range cases {
		if !impl.SpanOk(c.s) {
			t.Errorf("SpanOk(%+v) is false", c.s)
		}
		if got := impl.SizeOf(c.s); got != c.size {
			t.Errorf("SizeOf(%+v) = %d, want %d", c.s, got, c.size)
		}
		if got := impl.LengthOf(c.s); got != c.length {
			t.Errorf("LengthOf(%+v) = %d, want %d", c.s, got, c.length)
		}
		if got := impl.SpanText(c.s); got != c.text {
			t.Errorf("SpanText(%+v) = %q, want %q", c.s, got, c.text)
		}
	}
}

func TestSpanOkAtEveryEdge(t *testing.T) {
	cases := []struct {
		name   string
		change func(s *impl.Span)
		want   bool
	}{
		{"as it is", func(s *impl.Span) {}, true},
		{"Trace 1", func(s *impl.Span) { s.Trace = 1 }, true},
		{"Trace 999", func(s *impl.Span) { s.Trace = 999 }, true},
		{"Trace 0", func(s *impl.Span) { s.Trace = 0 }, false},
		{"Trace 1000", func(s *impl.Span) { s.Trace = 1000 }, false},
		{"Trace below 0", func(s *impl.Span) { s.Trace = -1 }, false},
		{"Id 1", func(s *impl.Span) { s.Id = 1 }, true},
		{"Id 999", func(s *impl.Span) { s.Id = 999 }, true},
		{"Id 0", func(s *impl.Span) { s.Id = 0 }, false},
		{"Id 1000", func(s *impl.Span) { s.Id = 1000 }, false},
		{"Id below 0", func(s *impl.Span) { s.Id = math.MinInt }, false},
		{"Start 0", func(s *impl.Span) { s.Start = 0 }, true},
		{"Start below 0", func(s *impl.Span) { s.Start = -1 }, false},
		{"both below 0", func(s *impl.Span) { s.Start, s.End = -2, -1 }, false},
		{"End 99999", func(s *impl.Span) { s.End = 99999 }, true},
		{"End 100000", func(s *impl.Span) { s.End = 100000 }, false},
		{"both 99999", func(s *impl.Span) { s.Start, s.End = 99999, 99999 }, true},
		{"both 100000", func(s *impl.Span) { s.Start, s.End = 100000, 100000 }, false},
		{"both 0", func(s *impl.Span) { s.Start, s.End = 0, 0 }, true},
		{"Start above End", func(s *impl.Span) { s.Start = 9 }, false},
		{"Start as End", func(s *impl.Span) { s.Start = 8 }, true},
		{"not failed", func(s *impl.Span) { s.Err = false }, true},
		{"nothing said", func(s *impl.Span) { s.Attrs = nil }, true},
		{"two of one name", func(s *impl.Span) { s.Attrs[1].Key = "code" }, false},
		{"out of order", func(s *impl.Span) { slices.Reverse(s.Attrs) }, false},
		{"a number that is not right", func(s *impl.Span) { s.Attrs[0].N = -1 }, false},
		{"five", func(s *impl.Span) {
			s.Attrs = []impl.Attr{numAttr("a", 1), numAttr("b", 1), numAttr("c", 1), numAttr("d", 1), numAttr("e", 1)}
		}, false},
		{"96 bytes", func(s *impl.Span) { *s = fullSpan() }, true},
		{"97 bytes", func(s *impl.Span) { *s = fullSpan(); s.Attrs = append(s.Attrs, textAttr("d", "")) }, false},
		{"96 bytes of four", func(s *impl.Span) {
			*s = fullSpan()
			s.Attrs[2].Text = twentyBytes[:15]
			s.Attrs = append(s.Attrs, numAttr("d", 1))
		}, true},
		{"97 bytes of four", func(s *impl.Span) {
			*s = fullSpan()
			s.Attrs[2].Text = twentyBytes[:16]
			s.Attrs = append(s.Attrs, numAttr("d", 1))
		}, false},
		{"the zero one", func(s *impl.Span) { *s = impl.Span{} }, false},
	}
	for _, c := range cases {
		s := rightSpan()
		c.change(&s)
		if got := impl.SpanOk(s); got != c.want {
			t.Errorf("SpanOk, %s: %v (%+v)", c.name, got, s)
		}
		if got := impl.SpanText(s); (got != "") != c.want {
			t.Errorf("SpanText, %s: %q", c.name, got)
		}
	}
}

func TestSizeOfAndLengthOfAnything(t *testing.T) {
	cases := []struct {
		s            impl.Span
		size, length int
	}{
		{impl.Span{}, 12, 0},
		{impl.Span{Start: 5}, 12, 0},
		{impl.Span{Start: -5, End: 4}, 12, 4},
		{impl.Span{Start: -5, End: -1}, 12, 0},
		{impl.Span{Start: 1, End: math.MaxInt}, 12, impl.MaxNum - 1},
		{impl.Span{Start: math.MinInt, End: math.MaxInt}, 12, impl.MaxNum},
		{impl.Span{Start: math.MaxInt, End: math.MinInt}, 12, 0},
		{impl.Span{Attrs: []impl.Attr{{}, {}, {Num: true, Text: "beside it"}}}, 16, 0},
		{impl.Span{Attrs: []impl.Attr{textAttr("k", strings.Repeat("x", 5000)), textAttr("k", "y")}}, 12 + 5001 + 2, 0},
	}
	for _, c := range cases {
		if got := impl.SizeOf(c.s); got != c.size {
			t.Errorf("SizeOf = %d, want %d", got, c.size)
		}
		if got := impl.LengthOf(c.s); got != c.length {
			t.Errorf("LengthOf(%d-%d) = %d, want %d", c.s.Start, c.s.End, got, c.length)
		}
	}
}

func TestSameSpanByParts(t *testing.T) {
	changes := map[string]func(s *impl.Span){
		"Trace":        func(s *impl.Span) { s.Trace++ },
		"Id":           func(s *impl.Span) { s.Id++ },
		"Start":        func(s *impl.Span) { s.Start++ },
		"End":          func(s *impl.Span) { s.End++ },
		"Err":          func(s *impl.Span) { s.Err = false },
		"a Key":        func(s *impl.Span) { s.Attrs[1].Key = "l" },
		"a Num":        func(s *impl.Span) { s.Attrs[0].Num = false },
		"an N":         func(s *impl.Span) { s.Attrs[0].N++ },
		"a text's N":   func(s *impl.Span) { s.Attrs[1].N++ },
		"a Text":       func(s *impl.Span) { s.Attrs[1].Text = "w" },
		"the order":    func(s *impl.Span) { slices.Reverse(s.Attrs) },
		"one fewer":    func(s *impl.Span) { s.Attrs = s.Attrs[:1] },
		"one more":     func(s *impl.Span) { s.Attrs = append(s.Attrs, impl.Attr{}) },
		"nothing said": func(s *impl.Span) { s.Attrs = nil },
	}
	for name, change := range changes {
		a, b := rightSpan(), rightSpan()
		if !impl.SameSpan(a, b) || !impl.SameSpan(b, a) {
			t.Fatal("alike ones are not the same")
		}
		change(&b)
		if impl.SameSpan(a, b) || impl.SameSpan(b, a) {
			t.Errorf("they differ in %s, and are the same", name)
		}
		if !impl.SameSpan(b, cloneSpan(b)) {
			t.Errorf("changed in %s, it is not the same as itself", name)
		}
	}
	if !impl.SameSpan(impl.Span{Attrs: nil}, impl.Span{Attrs: []impl.Attr{}}) {
		t.Error("nil and empty are not the same")
	}
}

func TestTotalOf(t *testing.T) {
	cases := []struct {
		name string
		l    []impl.Span
		want int
	}{
		{"nil", nil, 0},
		{"none", []impl.Span{}, 0},
		{"the zero one", []impl.Span{{}}, 12},
		{"two", []impl.Span{rightSpan(), fullSpan()}, 118},
		{"the same twice", []impl.Span{rightSpan(), rightSpan()}, 44},
		{"what is not right", []impl.Span{{Attrs: []impl.Attr{textAttr("", strings.Repeat("x", 1000))}}, {Trace: -1}}, 1024},
		{"many", slices.Repeat([]impl.Span{fullSpan()}, 10000), 960000},
		{"above MaxNum", slices.Repeat([]impl.Span{{Attrs: []impl.Attr{textAttr("", strings.Repeat("x", 1<<20))}}}, 3000), 3000 * (12 + 1<<20)},
	}
	for _, c := range cases {
		if got := impl.TotalOf(c.l); got != c.want {
			t.Errorf("TotalOf %s = %d, want %d", c.name, got, c.want)
		}
	}
}

// Promise 3: the size of a thing is that of its parts, and the total of a list that of both its pieces, wherever it is cut.
func TestSizesAddUp(t *testing.T) {
	l := []impl.Span{
		rightSpan(), fullSpan(), {}, {Attrs: []impl.Attr{{}, {Key: "not right", N: -4, Text: "\xff"}}}, rightSpan(),
		{Attrs: []impl.Attr{textAttr("k", strings.Repeat("x", 500)), numAttr("", -1), {Num: true, Text: "beside it"}}},
	}
	before := cloneSpans(l)
	for _, s := range l {
		want := 12
		for _, a := range s.Attrs {
			want += impl.AttrSize(a)
		}
		if got := impl.SizeOf(s); got != want {
			t.Errorf("SizeOf(%+v) = %d, want %d", s, got, want)
		}
		if got := impl.TotalOf([]impl.Span{s}); got != want {
			t.Errorf("TotalOf just %+v = %d, want %d", s, got, want)
		}
	}
	for cut := range len(l) + 1 {
		if whole, parts := impl.TotalOf(l), impl.TotalOf(l[:cut])+impl.TotalOf(l[cut:]); whole != parts {
			t.Errorf("cut at %d: %d, whole: %d", cut, parts, whole)
		}
	}
	if !sameSpans(l, before) {
		t.Error("the list was changed")
	}
}
