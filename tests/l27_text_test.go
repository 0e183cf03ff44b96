package tests

import (
	"math"
	"regexp"
	"slices"
	"strconv"
	"strings"
	"testing"

	"loop.example/g00488/impl"
)

var (
	spanForm = regexp.MustCompile(`^(0|[1-9][0-9]{0,9})/(0|[1-9][0-9]{0,9}) (0|[1-9][0-9]{0,9})-(0|[1-9][0-9]{0,9})( failed)?((?: [a-z]{1,8}=(?:0|[1-9][0-9]{0,9}|"[^"\x00-\x1f\x7f-\x{10ffff}]{0,20}"))*)$`)
	attrForm = regexp.MustCompile(` ([a-z]{1,8})=(?:(0|[1-9][0-9]{0,9})|"([^"]*)")`)
)

func number(s string) int {
	n, _ := strconv.Atoi(s)
	return n
}

// The thing of this text, read by another way than the program's.
func wantedSpan(s string) (impl.Span, bool) {
	m := spanForm.FindStringSubmatch(s)
	if m == nil {
		return impl.Span{}, false
	}
	x := impl.Span{Trace: number(m[1]), Id: number(m[2]), Start: number(m[3]), End: number(m[4]), Err: m[5] != ""}
	for _, a := range attrForm.FindAllStringSubmatch(m[6], -1) {
		if a[2] != "" {
			x.Attrs = append(x.Attrs, numAttr(a[1], number(a[2])))
		} else {
			x.Attrs = append(x.Attrs, textAttr(a[1], a[3]))
		}
	}
	if !impl.SpanOk(x) {
		return impl.Span{}, false
	}
	return x, true
}

var polForm = regexp.MustCompile(`^(?:(all|err|rate)|(long) (0|[1-9][0-9]{0,9})|(text) ([a-z]{1,8}) "([^"\x00-\x1f\x7f-\x{10ffff}]{0,20})"|(num) ([a-z]{1,8}) (0|[1-9][0-9]{0,9}))`)

// The rule that stands first in a text, and what stands behind it.
func wantedFirstPol(s string) (impl.Pol, string, bool) {
	kinds := map[string]int{"all": impl.PoAll, "err": impl.PoErr, "rate": impl.PoRate, "and(": impl.PoAnd, "or(": impl.PoOr, "not(": impl.PoNot}
	if m := polForm.FindStringSubmatch(s); m != nil {
		rest := s[len(m[0]):]
		switch {
		case m[1] != "":
			return impl.Pol{Kind: kinds[m[1]]}, rest, true
		case m[2] != "":
			return longPol(number(m[3])), rest, true
		case m[4] != "":
			return textPol(m[5], m[6]), rest, true
		}
		return numPol(m[8], number(m[9])), rest, true
	}
	for _, word := range []string{"and(", "or(", "not("} {
		rest, ok := strings.CutPrefix(s, word)
		if !ok {
			continue
		}
		p := impl.Pol{Kind: kinds[word]}
		for {
			inner, left, ok := wantedFirstPol(rest)
			if !ok {
				return impl.Pol{}, "", false
			}
			p.L = append(p.L, inner)
			if rest, ok = strings.CutPrefix(left, ", "); !ok {
				rest, ok = strings.CutPrefix(left, ")")
				return p, rest, ok
			}
		}
	}
	return impl.Pol{}, "", false
}

func wantedPol(s string) (impl.Pol, bool) {
	p, rest, ok := wantedFirstPol(s)
	if !ok || rest != "" || !impl.PolOk(p) {
		return impl.Pol{}, false
	}
	return p, true
}

// All texts that are one byte longer, shorter, or other.
func nearTexts(s string) []string {
	out := []string{}
	bytes := []string{" ", "0", "1", "9", "a", "f", "z", "A", "-", "/", "=", "\"", ",", "(", ")", "\n", "\t", "\x00", "\x7f", "\x80", "\xff", "é", "_", "~"}
	for i := range len(s) + 1 {
		for _, b := range bytes {
			out = append(out, s[:i]+b+s[i:])
			if i < len(s) {
				out = append(out, s[:i]+b+s[i+1:])
			}
		}
		if i < len(s) {
			out = append(out, s[:i]+s[i+1:], s[:i]+s[i:i+1]+s[i:])
		}
	}
	return out
}

func readsSpan(t *testing.T, s string) bool {
	t.Helper()
	got, ok := impl.ParseSpan(s)
	want, right := wantedSpan(s)
	if ok != right || !sameSpans([]impl.Span{got}, []impl.Span{want}) {
		t.Errorf("ParseSpan of %q: %+v, %v", s, got, ok)
	}
	if ok && (!impl.SpanOk(got) || impl.SpanText(got) != s) {
		t.Errorf("ParseSpan of %q: its text is %q", s, impl.SpanText(got))
	}
	return ok
}

func readsPol(t *testing.T, s string) bool {
	t.Helper()
	got, ok := impl.ParsePol(s)
	want, right := wantedPol(s)
	if ok != right || !samePols(got, want) {
		t.Errorf("ParsePol of %q: %+v, %v", s, got, ok)
	}
	if ok && (!impl.PolOk(got) || impl.PolText(got) != s) {
		t.Errorf("ParsePol of %q: its text is %q", s, impl.PolText(got))
	}
	return ok
}

// Right things of all kinds.
func manySpans() []impl.Span {
	plain := impl.Span{Trace: 1, Id: 2, Start: 3, End: 4}
	out := []impl.Span{plain, rightSpan(), fullSpan(), thing(1, 1), {Trace: 999, Id: 999, Start: 99999, End: 99999, Err: true}, {Trace: 1, Id: 1}}
	attrs := [][]impl.Attr{
		{numAttr("a", 0)}, {numAttr("abcdefgh", impl.MaxNum)}, {textAttr("a", "")}, {textAttr("k", twentyBytes)}, {textAttr("k", " ")}, {textAttr("k", "a=1")}, {textAttr("k", "failed")},
		{numAttr("failed", 1)}, {textAttr("failed", "failed")}, {textAttr("a", "x"), numAttr("b", 1)}, {numAttr("a", 1), textAttr("b", ""), numAttr("c", 3), textAttr("d", "x y")},
		{textAttr("k", "1/2 3-4")}, {textAttr("k", "~!#$%&'()*+,-./")}, {textAttr("k", "0123:;<=>?@[\\]^_`{|}")}, {numAttr("k", 10)}, {numAttr("a", 5), numAttr("aa", 6), numAttr("b", 7)},
	}
	for _, l := range attrs {
		for _, failed := range []bool{false, true} {
			s := plain
			s.Err, s.Attrs = failed, l
			out = append(out, s)
		}
	}
	return out
}

// Promise 27, of things.
func TestThingsComeBackOfTheirWords(t *testing.T) {
	for _, s := range manySpans() {
		text := impl.SpanText(s)
		if text == "" {
			t.Fatalf("it is not right: %+v", s)
		}
		got, ok := impl.ParseSpan(text)
		if !ok || !impl.SameSpan(got, s) || !readsSpan(t, text) {
			t.Errorf("%q: %+v, %v", text, got, ok)
		}
	}
	for c := byte(32); c < 127; c++ {
		s := impl.Span{Trace: 1, Id: 1, Attrs: []impl.Attr{textAttr("k", string([]byte{c, 'x', c}))}}
		if got, ok := impl.ParseSpan(impl.SpanText(s)); ok != (c != '"') || ok && !impl.SameSpan(got, s) {
			t.Errorf("the byte %d in a text: %v", c, ok)
		}
	}
	for round := range 90 {
		for _, e := range someEvents(uint32(round)+20, 20) {
			if got, ok := impl.ParseSpan(impl.SpanText(e.S)); impl.SpanOk(e.S) && (!ok || !impl.SameSpan(got, e.S)) {
				t.Errorf("%+v: %+v", e.S, got)
			}
		}
	}
}

func TestThingsOfOtherWords(t *testing.T) {
	right, wrong := 0, 0
	for _, s := range manySpans() {
		for _, text := range nearTexts(impl.SpanText(s)) {
			if readsSpan(t, text) {
				right++
			} else {
				wrong++
			}
		}
	}
	if right < 1000 || wrong < 10000 {
		t.Errorf("%d are right, %d are not", right, wrong)
	}
	long := strings.Repeat("x", 21)
	for _, s := range []string{
		"", " ", "  ", "1", "1/", "1/2", "1/2 ", "1/2 3", "1/2 3-", "/2 3-4", "1/ 3-4", "1/2 -4", "1/2 3-4 ", " 1/2 3-4", "1/2  3-4", "1 /2 3-4", "1/2 3 -4", "1/23-4",
		"01/2 3-4", "1/02 3-4", "1/2 03-4", "1/2 3-04", "1/2 0-00", "+1/2 3-4", "1/+2 3-4", "1/2 -3-4", "1/2 3--4", "1/2 3-+4", "-1/2 3-4",
		"0/2 3-4", "1/0 3-4", "1000/2 3-4", "1/1000 3-4", "1/2 4-3", "1/2 3-100000", "1/2 100000-100000", "99999999999999999999/2 3-4", "18446744073709551617/2 3-4", "4294967297/2 3-4",
		"1/2 3-4 failed ", "1/2 3-4  failed", "1/2 3-4 failed failed", "1/2 3-4failed", "1/2 3-4 FAILED", "1/2 3-4 faile", "1/2 3-4 failedx", "1/2 3-4 k=1 failed", "1/2 3-4 failed=",
		"1/2 3-4 k", "1/2 3-4 k=", "1/2 3-4 =1", "1/2 3-4 k=01", "1/2 3-4 k=-1", "1/2 3-4 k=+1", "1/2 3-4 k=2147483648", "1/2 3-4 k=x", "1/2 3-4 k=1x", "1/2 3-4 k=1 ", "1/2 3-4 k =1", "1/2 3-4 k= 1",
		`1/2 3-4 k="`, `1/2 3-4 k="x`, `1/2 3-4 k=x"`, `1/2 3-4 k="x"y`, `1/2 3-4 k="x""`, `1/2 3-4 k="x"y"`, `1/2 3-4 k="` + long + `"`, "1/2 3-4 k=\"\n\"", "1/2 3-4 k=\"\x7f\"", "1/2 3-4 k=\"\xff\"", "1/2 3-4 k=\"é\"", "1/2 3-4 k=\"\uFFFD\"", `1/2 3-4 k="x"  j=1`,
		"1/2 3-4 abcdefghi=1", "1/2 3-4 K=1", "1/2 3-4 k1=1", "1/2 3-4 k_=1", "1/2 3-4 b=1 a=1", "1/2 3-4 a=1 a=1", "1/2 3-4 a=1 a=2", "1/2 3-4 a=1b=2", "1/2 3-4 a=1 b=2 c=3 d=4 e=5",
		impl.SpanText(fullSpan()) + " d=1", "1/2 3-4\n", "1/2\n3-4", "\xff", "1/2 3-4 \xff", "１/2 3-4", "1/2 3-4 k=１", strings.Repeat("1", 100000), strings.Repeat(" ", 100000), "1/2 3-4" + strings.Repeat(" a=1", 100000), `1/2 3-4 k="` + strings.Repeat("x", 100000),
	} {
		if got, ok := impl.ParseSpan(s); ok || differs(got, impl.Span{}) != "" {
			t.Errorf("ParseSpan of %.60q: %+v, %v", s, got, ok)
		}
		if len(s) < 1000 {
			readsSpan(t, s)
		}
	}
}

// Promise 27, of rules.
func TestRulesComeBackOfTheirWords(t *testing.T) {
	many := slices.Concat(rightPols(), judgingPols())
	for _, p := range rightPols() {
		many = append(many, notPol(p), orPol(errPol, p), andPol(p, p))
	}
	read := 0
	for _, p := range many {
		text := impl.PolText(p)
		got, ok := impl.ParsePol(text)
		if ok != impl.PolOk(p) || ok && !impl.SamePol(got, p) {
			t.Errorf("%q: %+v, %v", text, got, ok)
		}
		if ok {
			read++
			readsPol(t, text)
		}
	}
	if read < 60 {
		t.Errorf("%d were read", read)
	}
	for c := byte(32); c < 127; c++ {
		p := textPol("k", string([]byte{c, 'x', c}))
		if got, ok := impl.ParsePol(impl.PolText(p)); ok != (c != '"') || ok && !impl.SamePol(got, p) {
			t.Errorf("the byte %d in a text: %v", c, ok)
		}
	}
	got, _ := impl.ParsePol("and(all, or(err, rate), not(all))")
	apart(t, "ParsePol", []any{got})
}

func TestRulesOfOtherWords(t *testing.T) {
	right, wrong := 0, 0
	for _, p := range rightPols() {
		for _, text := range nearTexts(impl.PolText(p)) {
			if readsPol(t, text) {
				right++
			} else {
				wrong++
			}
		}
	}
	if right < 300 || wrong < 5000 {
		t.Errorf("%d are right, %d are not", right, wrong)
	}
	for _, s := range []string{
		"", " ", "all ", " all", "allx", "al", "All", "ALL", "xall", "all all", "all, err", "all,", "all)", "(all)", "err()", "rate(all)", "rate 1", "none", "\xff", "all\xff", "all\n", "all\x00",
		"long", "long ", "long  5", "long 05", "long 00", "long -5", "long +5", "long 2147483648", "long 99999999999999999999", "long 5 ", "long 5x", "long x", "long5", "long(5)",
		"text", "text k", "text k ", "text k a", `text k "a`, `text k a"`, `text k"a"`, `text  k "a"`, `text k  "a"`, `text k "a" `, `text "a"`, `text k "a"b"`, `text K "a"`, `text abcdefghi "a"`, `text  "a"`, `text k "` + strings.Repeat("x", 21) + `"`, "text k \"\xff\"", "text k \"é\"", "text k \"\t\"", "text k 5",
		"num", "num k", "num k ", "num 5", "num k 05", "num k -1", "num k x", "num k 2147483648", "num K 5", "num abcdefghi 5", "num  5", "num k  5", `num k "5"`,
		"and", "and(", "and()", "and( )", "and(all", "and(all,", "and(all, ", "and(all, )", "and(all,err)", "and(all,  err)", "and(all , err)", "and( all)", "and(all )", "and(all) ", "and(all))", "and (all)", "and(all err)", "and(, all)", "and((all))", "and(all)(all)", "and(all)all", "and all",
		"or", "or()", "or(all, all, all, all, all)", "not", "not()", "not(all, err)", "not(all", "not all", "not(not(not(not(all))))", "and(or(and(or(all))))", "xor(all)", "nor(all)",
		"and(and(all, all, all, all), and(all, all, all, all), and(all))", "and(or(all, all, all, all), or(all, all, all, all), all, all)",
		strings.Repeat("not(", 100000), strings.Repeat("not(", 100000) + "all" + strings.Repeat(")", 100000), "and(" + strings.Repeat("all, ", 100000) + "all)", strings.Repeat("and(all, ", 50000), strings.Repeat("(", 100000), `text k "` + strings.Repeat("x", 100000) + `"`,
	} {
		if got, ok := impl.ParsePol(s); ok || differs(got, impl.Pol{}) != "" {
			t.Errorf("ParsePol of %.60q: %+v, %v", s, got, ok)
		}
		if len(s) < 1000 {
			readsPol(t, s)
		}
	}
	for _, s := range []string{"and(and(all, all, all, all), and(all, all, all, all), err)", "not(not(not(all)))", "and(or(and(or(all, all)), not(err), rate))", "or(all, all, all, all)"} {
		if impl.PolOk(mustPol(s)) != readsPol(t, s) {
			t.Errorf("%q", s)
		}
	}
	// Just as many as may be, and one more.
	twelve := "and(or(all, all, all, all), or(all, all, all), err, rate)"
	if p, ok := impl.ParsePol(twelve); !ok || impl.PolCount(p) != impl.MaxPols {
		t.Errorf("%q: %v", twelve, ok)
	}
	if _, ok := impl.ParsePol("and(or(all, all, all, all), or(all, all, all, all), err, rate)"); ok {
		t.Error("one too many")
	}
}

// So deep that calls within calls, one for each bracket, would have no end that a stack has room for.
func TestRulesOfWordsThatAreFarTooDeep(t *testing.T) {
	const deep = 1 << 22
	for _, s := range []string{strings.Repeat("not(", deep), strings.Repeat("or(", deep) + "all" + strings.Repeat(")", deep)} {
		if got, ok := impl.ParsePol(s); ok || differs(got, impl.Pol{}) != "" {
			t.Errorf("ParsePol of %.20q: %+v, %v", s, got, ok)
		}
	}
}

func mustPol(s string) impl.Pol {
	p, _, _ := wantedFirstPol(s)
	return p
}

func TestDeedText(t *testing.T) {
	s := rightSpan()
	words := impl.SpanText(s)
	cases := []struct {
		d    impl.Deed
		want string
	}{
		{impl.Deed{Op: impl.DeOffer, S: s, Code: impl.CoHeld, Lin: 3}, "offer " + words + " held"},
		{impl.Deed{Op: impl.DeOffer, S: s, Code: impl.CoLate, Lin: 0}, "offer " + words + " late"},
		{impl.Deed{Op: impl.DeOffer, S: s, Code: impl.CoGone, Lin: 3}, "offer " + words + " gone"},
		{impl.Deed{Op: impl.DeOffer, S: s, Code: impl.CoShut, Lin: 3}, "offer " + words + " shut"},
		{impl.Deed{Op: impl.DeOffer, S: s, Code: impl.CoBad, Lin: 3}, "offer " + words + " bad"},
		{impl.Deed{Op: impl.DeOffer, S: s, Lin: -1, Res: -1}, "offer " + words + " open"},
		{impl.Deed{Op: impl.DeOffer, S: s, Code: impl.CoHeld, Lin: -1}, "offer " + words + " open"},
		{impl.Deed{Op: impl.DeOffer, S: s, Code: 0}, "offer " + words + " "},
		{impl.Deed{Op: impl.DeOffer, S: s, Code: 6}, "offer " + words + " "},
		{impl.Deed{Op: impl.DeOffer, Code: impl.CoBad}, "offer  bad"},
		{impl.Deed{Op: impl.DeOffer, Lin: -1}, "offer  open"},
		{impl.Deed{Op: impl.DeOffer, S: thing(1, 2), Code: impl.CoHeld, Trace: 9, Stamp: 8, N: 7}, "offer " + impl.SpanText(thing(1, 2)) + " held"},
		{impl.Deed{Op: impl.DeJudge, Trace: 7, Keep: true, N: 3, Lin: 2}, "judge 7 kept 3"},
		{impl.Deed{Op: impl.DeJudge, Trace: 7, Keep: true, N: 0}, "judge 7 kept 0"},
		{impl.Deed{Op: impl.DeJudge, Trace: 999, N: 3}, "judge 999 dropped 3"},
		{impl.Deed{Op: impl.DeJudge, Trace: 7, N: -3}, "judge 7 dropped -3"},
		{impl.Deed{Op: impl.DeJudge, Trace: 7, Void: true}, "judge 7 void"},
		{impl.Deed{Op: impl.DeJudge, Trace: 7, Void: true, Keep: true, N: 4}, "judge 7 void"},
		{impl.Deed{Op: impl.DeJudge, Trace: 7, Lin: -1}, "judge 7 open"},
		{impl.Deed{Op: impl.DeJudge, Trace: 7, Lin: -1, Keep: true, N: 4}, "judge 7 open"},
		{impl.Deed{Op: impl.DeJudge, Trace: 7, Lin: -1, Void: true}, "judge 7 open"},
		{impl.Deed{Op: impl.DeJudge, Trace: -7, Stamp: 9, S: s}, "judge -7 dropped 0"},
		{impl.Deed{Op: impl.DeDrop, Trace: 7, N: 3, Lin: 4, Stamp: 9}, "drop 7 3"},
		{impl.Deed{Op: impl.DeDrop, Trace: 7, N: 3, Lin: -1, Keep: true, Void: true}, "drop 7 3"},
		{impl.Deed{Op: impl.DeDrop}, "drop 0 0"},
		{impl.Deed{Op: impl.DeShut, Lin: 4, Trace: 7, N: 3}, "shut"},
		{impl.Deed{Op: impl.DeShut, Lin: -1}, "shut"},
		{impl.Deed{}, ""},
		{impl.Deed{Op: -1, S: s, Trace: 3}, ""},
		{impl.Deed{Op: 5, S: s, Trace: 3}, ""},
		{impl.Deed{Op: math.MaxInt}, ""},
	}
	for _, c := range cases {
		d := roomy(c.d)
		check := watched(d)
		if got := impl.DeedText(d); got != c.want {
			t.Errorf("%+v: %q, not %q", c.d, got, c.want)
		}
		check(t, "DeedText")
	}
}

func TestTaskText(t *testing.T) {
	for _, pc := range []int{0, 1, 2, 3, 4, -1, math.MaxInt} {
		for op, word := range map[int]string{impl.OpNone: "idle", impl.OpOffer: "offer " + strconv.Itoa(pc), impl.OpJudge: "judge " + strconv.Itoa(pc), -1: "", 3: "", 7: "", math.MinInt: ""} {
			x := impl.Task{Op: op, Pc: pc, S: rightSpan(), Trace: 4, Stamp: 5, Hand: []impl.Item{item(1, 1, 1)}, H: 6}
			if got := impl.TaskText(x); got != word {
				t.Errorf("of the Op %d at %d: %q", op, pc, got)
			}
		}
	}
}

func TestItemTextAndCountText(t *testing.T) {
	s := rightSpan()
	for stamp, want := range map[int]string{0: "0: ", 1: "1: ", 12345: "12345: ", -1: "-1: ", math.MaxInt: "9223372036854775807: ", math.MinInt: "-9223372036854775808: "} {
		if got := impl.ItemText(impl.Item{Stamp: stamp, S: s}); got != want+impl.SpanText(s) {
			t.Errorf("of the Stamp %d: %q", stamp, got)
		}
		if got := impl.ItemText(impl.Item{Stamp: stamp}); got != want {
			t.Errorf("of the Stamp %d, of nothing: %q", stamp, got)
		}
	}
	for n, want := range map[impl.Count]string{
		{}: "0 0 0 0 0",
		{Came: 1, Went: 2, Moving: 3, Held: 4, Dropped: 5}:                                  "1 2 3 4 5",
		{Came: -1, Went: -20, Moving: 0, Held: 10, Dropped: -5}:                             "-1 -20 0 10 -5",
		{Came: math.MaxInt, Went: math.MinInt, Moving: impl.MaxNum, Held: 1000, Dropped: 7}: "9223372036854775807 -9223372036854775808 2147483647 1000 7",
	} {
		if got := impl.CountText(n); got != want {
			t.Errorf("%+v: %q", n, got)
		}
	}
}

func FuzzTextsComeBack(f *testing.F) {
	for _, s := range manySpans() {
		f.Add(impl.SpanText(s))
	}
	for _, p := range rightPols() {
		f.Add(impl.PolText(p))
	}
	f.Fuzz(func(t *testing.T, s string) {
		readsSpan(t, s)
		readsPol(t, s)
	})
}
