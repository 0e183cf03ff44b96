package tests

import (
	"slices"
	"strings"
	"testing"

	"loop.example/g00488/impl"
)

// Complains unless the lines, each with what it is answered, are answered so; "": it is not answered.
func benches(t *testing.T, name string, l ...[2]string) {
	t.Helper()
	in, want := "", ""
	for _, x := range l {
		in += x[0] + "\n"
		if x[1] != "" {
			want += x[1] + "\n"
		}
	}
	if got := impl.Bench(in); got != want {
		lines := strings.Split(got, "\n")
		for i, x := range slices.DeleteFunc(slices.Clone(l), func(x [2]string) bool { return x[1] == "" }) {
			if i >= len(lines) || lines[i] != x[1] {
				t.Errorf("%s: the line %d, %q: %q, not %q", name, i, x[0], lines[min(i, len(lines)-1)], x[1])
			}
		}
		t.Errorf("%s: %q, not %q", name, got, want)
	}
}

func TestBenchByLines(t *testing.T) {
	for in, want := range map[string]string{
		"":               "",
		"\n":             "",
		"\n\n\n":         "",
		"time":           "0\n",
		"time\n":         "0\n",
		"time\n\n":       "0\n",
		"\ntime":         "0\n",
		"\n\ntime\n\n":   "0\n",
		"time\nused":     "0\n0\n",
		"time\n\nused\n": "0\n0\n",
		" ":              "what\n",
		"  ":             "what\n",
		" time":          "what\n",
		"time ":          "what\n",
		"time\r\n":       "what\n",
		"time\x00":       "what\n",
		"\ttime":         "what\n",
		"Time":           "what\n",
		"TIME":           "what\n",
		"tim":            "what\n",
		"times":          "what\n",
		"x":              "what\n",
		"\xff":           "what\n",
		"time\xff":       "what\n",
		"é":              "what\n",
		"time\u00a0":     "what\n",
	} {
		if got := impl.Bench(in); got != want {
			t.Errorf("%q: %q, not %q", in, got, want)
		}
	}
}

// The words that have no rest, and what they are answered at first.
var bareWords = map[string]string{
	"take": "no", "shut": "ok", "count": "0 0 0 0 0", "time": "0", "used": "0", "held": "0", "due": "0", "way": "0", "known": "0", "deeds": "0",
	"linear": "yes", "whole": "yes", "settled": "no", "stuck": "no",
}

// The words that have a number.
var numberWords = map[string]string{"room": "no", "pick": "no", "tick": "no", "calm": "yes", "task": "idle", "deed": "none", "out": "none"}

func TestBenchOfWordsAndTheirRests(t *testing.T) {
	for word, answer := range bareWords {
		benches(t, word, [2]string{word, answer})
		for _, rest := range []string{" ", "  ", " 0", " 1", " x", " all", " " + word} {
			benches(t, word, [2]string{word + rest, "what"}, [2]string{"deeds", "0"})
		}
	}
	for word, answer := range numberWords {
		benches(t, word, [2]string{word + " 0", answer})
		for _, rest := range []string{"", " ", "  ", "  0", " 0 ", " 0 0", " 00", " 01", " -0", " -1", " +1", " 2147483648", " 99999999999999999999", " 18446744073709551616", " x", " 1x", " 1\t", " １", "0", "\t0"} {
			benches(t, word, [2]string{word + rest, "what"}, [2]string{"deeds", "0"})
		}
	}
	for _, rest := range []string{"", " ", " nope", "  err", " err ", " err all", " Err", " long", " and()", " not(not(not(not(all))))", " err\t", " 5"} {
		benches(t, "rule", [2]string{"rule" + rest, "what"})
	}
	for _, rest := range []string{"", " ", " 0", " 0 ", " 0  1/1 2-3", "  0 1/1 2-3", " 0 1/1 2-3 ", " 0 1/1", " 0 1/1 3-2", " 0 x", " x 1/1 2-3", " -1 1/1 2-3", " 00 1/1 2-3", " 2147483648 1/1 2-3", " 1/1 2-3", " 0 0 1/1 2-3", " 0\t1/1 2-3", " 0 1/1 2-3 k", ` 0 1/1 2-3 k="x`} {
		benches(t, "offer", [2]string{"offer" + rest, "what"}, [2]string{"deeds", "0"})
	}
	for _, line := range []string{"hop", "hop 1", "hop ", "rule1", "picks 0", "ok", "what", "none", "idle", "yes", "queue", "wait 3", "stripes", "#", "offer0 1/1 2-3"} {
		benches(t, line, [2]string{line, "what"})
	}
}

func TestBenchOfOffersAndPicks(t *testing.T) {
	benches(t, "offers",
		[2]string{"offer 3 1/1 2-3", "no"}, [2]string{"offer 4 1/1 2-3", "no"}, [2]string{"offer 99 1/1 2-3", "no"}, [2]string{"deeds", "0"},
		[2]string{"offer 0 1/1 2-3", "ok"}, [2]string{"offer 0 1/2 2-3", "no"}, [2]string{"offer 1 2/1 2-3 failed a=1 k=\"x y\"", "ok"}, [2]string{"offer 2 1/1 2-3", "ok"}, [2]string{"deeds", "3"},
		[2]string{"task 0", "offer 0"}, [2]string{"task 2", "offer 0"}, [2]string{"task 3", "idle"}, [2]string{"task 4", "idle"}, [2]string{"task 5", "none"}, [2]string{"task 2147483647", "none"},
		[2]string{"deed 0", "offer 1/1 2-3 open"}, [2]string{"deed 1", "offer 2/1 2-3 failed a=1 k=\"x y\" open"}, [2]string{"deed 2", "offer 1/1 2-3 open"}, [2]string{"deed 3", "none"},
		[2]string{"pick 0", "ok"}, [2]string{"pick 2", "no"}, [2]string{"task 0", "offer 1"}, [2]string{"pick 0", "ok"}, [2]string{"task 0", "idle"}, [2]string{"pick 0", "no"}, [2]string{"deed 0", "offer 1/1 2-3 held"},
		[2]string{"pick 3", "no"}, [2]string{"pick 5", "no"}, [2]string{"pick 2147483647", "no"},
		[2]string{"pick 2", "ok"}, [2]string{"pick 2", "ok"}, [2]string{"held", "1"}, [2]string{"used", "24"}, [2]string{"count", "2 0 0 2 0"}, [2]string{"stuck", "no"}, [2]string{"linear", "yes"},
	)
}

func TestBenchOfTime(t *testing.T) {
	benches(t, "ticks",
		[2]string{"tick 0", "no"}, [2]string{"tick 21", "no"}, [2]string{"time", "0"}, [2]string{"tick 1", "ok"}, [2]string{"time", "1"}, [2]string{"tick 20", "ok"}, [2]string{"time", "21"},
		[2]string{"offer 0 1/1 2-3", "ok"}, [2]string{"pick 0", "ok"}, [2]string{"pick 0", "ok"}, [2]string{"tick 2", "ok"}, [2]string{"due", "0"}, [2]string{"tick 1", "ok"}, [2]string{"due", "1"}, [2]string{"time", "24"},
		[2]string{"pick 4", "ok"}, [2]string{"due", "0"}, [2]string{"deed 1", "judge 1 open"}, [2]string{"task 4", "judge 0"}, [2]string{"calm 3", "yes"}, [2]string{"deed 1", "judge 1 dropped 1"}, [2]string{"known", "1"}, [2]string{"held", "0"},
	)
}

func TestBenchOfWhatGoesOut(t *testing.T) {
	benches(t, "out",
		[2]string{"rule all", "ok"}, [2]string{"offer 0 1/1 2-3", "ok"}, [2]string{"offer 1 2/7 2-3 failed", "ok"}, [2]string{"calm 9", "yes"}, [2]string{"shut", "ok"}, [2]string{"shut", "no"}, [2]string{"due", "2"}, [2]string{"settled", "no"},
		[2]string{"offer 0 9/9 1-1", "ok"}, [2]string{"pick 0", "ok"}, [2]string{"pick 0", "ok"}, [2]string{"deed 3", "offer 9/9 1-1 shut"}, [2]string{"deed 2", "shut"},
		[2]string{"pick 3", "ok"}, [2]string{"pick 3", "ok"}, [2]string{"pick 3", "ok"}, [2]string{"pick 3", "ok"}, [2]string{"task 3", "judge 3"}, [2]string{"way", "0"}, [2]string{"count", "2 0 1 1 0"},
		[2]string{"take", "no"}, [2]string{"pick 3", "ok"}, [2]string{"way", "1"}, [2]string{"out 0", "none"}, [2]string{"take", "ok"}, [2]string{"way", "0"}, [2]string{"take", "no"}, [2]string{"out 0", "1: 1/1 2-3"}, [2]string{"out 1", "none"},
		[2]string{"calm 2000", "yes"}, [2]string{"out 1", "2: 2/7 2-3 failed"}, [2]string{"out 2", "none"}, [2]string{"settled", "yes"}, [2]string{"whole", "yes"}, [2]string{"linear", "yes"}, [2]string{"stuck", "no"}, [2]string{"known", "2"}, [2]string{"count", "2 2 0 0 0"},
		[2]string{"deeds", "6"}, [2]string{"deed 5", "judge 2 kept 1"}, [2]string{"deed 6", "none"}, [2]string{"deed 2147483647", "none"},
	)
}

func TestBenchOfCalm(t *testing.T) {
	benches(t, "calm",
		[2]string{"calm 0", "yes"}, [2]string{"calm 2000", "yes"}, [2]string{"calm 2001", "yes"}, [2]string{"offer 0 1/1 2-3", "ok"}, [2]string{"calm 0", "no"}, [2]string{"task 0", "offer 0"},
		[2]string{"calm 2001", "no"}, [2]string{"task 0", "offer 0"}, [2]string{"calm 1", "no"}, [2]string{"task 0", "offer 1"}, [2]string{"calm 1", "yes"}, [2]string{"held", "1"}, [2]string{"tick 3", "ok"}, [2]string{"calm 2147483647", "no"}, [2]string{"due", "1"}, [2]string{"calm 2000", "yes"}, [2]string{"due", "0"},
	)
}

func TestBenchOfRulesAndRoom(t *testing.T) {
	offered := [2]string{"offer 0 1/1 2-3", "ok"}
	benches(t, "room", offered, [2]string{"room 0", "no"}, [2]string{"room 191", "no"}, [2]string{"room 2147483647", "no"}, [2]string{"room x", "what"}, [2]string{"deeds", "1"}, [2]string{"rule nope", "what"}, [2]string{"deeds", "1"}, [2]string{"task 0", "offer 0"},
		[2]string{"room 190", "ok"}, [2]string{"deeds", "0"}, [2]string{"task 0", "idle"}, offered, [2]string{"tick 5", "ok"}, [2]string{"room 1", "ok"}, [2]string{"time", "0"}, offered, [2]string{"deed 0", "offer 1/1 2-3 bad"}, [2]string{"task 0", "idle"})
	big := "offer 0 1/1 2-3 k=\"" + strings.Repeat("x", 17) + "\""
	benches(t, "the budget stays when the rule is another", [2]string{"room 29", "ok"}, [2]string{big, "ok"}, [2]string{"task 0", "idle"}, [2]string{"rule all", "ok"}, [2]string{big, "ok"}, [2]string{"deed 0", big[:6] + big[8:] + " bad"}, [2]string{"room 30", "ok"}, [2]string{big, "ok"}, [2]string{"task 0", "offer 0"})
	judged := func(answer string) [][2]string {
		return [][2]string{offered, {"calm 9", "yes"}, {"tick 3", "ok"}, {"calm 9", "yes"}, {"deed 1", answer}}
	}
	benches(t, "the rule at first", judged("judge 1 dropped 1")...)
	benches(t, "another rule", slices.Concat([][2]string{{"rule not(err)", "ok"}}, judged("judge 1 kept 1"))...)
	benches(t, "the rule stays when the room is another", slices.Concat([][2]string{{"rule not(err)", "ok"}, {"room 50", "ok"}}, judged("judge 1 kept 1"))...)
	benches(t, "the rule stays when the room is none", slices.Concat([][2]string{{"rule not(err)", "ok"}, {"room 0", "no"}}, judged("judge 1 kept 1"))...)
	benches(t, "the rule stays when there is none such", slices.Concat([][2]string{{"rule not(err)", "ok"}, {"rule not()", "what"}, {"rule", "what"}}, judged("judge 1 kept 1"))...)
	benches(t, "one rule behind the other", slices.Concat([][2]string{{"rule all", "ok"}, {"rule num k 5", "ok"}, {"rule text k \"a b\"", "ok"}}, judged("judge 1 dropped 1"))...)
	benches(t, "all begins anew", slices.Concat(judged("judge 1 dropped 1"), [][2]string{{"shut", "ok"}, {"rule err", "ok"}, {"known", "0"}, {"time", "0"}, {"settled", "no"}, {"shut", "ok"}})...)
}

// What the bench begins with, held against a world that is set up so.
func TestBenchBeginsAsTold(t *testing.T) {
	// The wait is 3, the cache 2, the queue 2, the budget 90, the burst 3 and the rate 1: each is seen by what one more or less would change.
	benches(t, "wait", [2]string{"offer 0 1/1 2-3", "ok"}, [2]string{"calm 5", "yes"}, [2]string{"tick 2", "ok"}, [2]string{"due", "0"}, [2]string{"tick 1", "ok"}, [2]string{"due", "1"})
	size := func(n int) string { return "k=\"" + strings.Repeat("x", n-13) + "\"" }
	benches(t, "budget", [2]string{"offer 0 1/1 2-3 " + size(30), "ok"}, [2]string{"offer 1 1/1 2-3 " + size(30), "ok"}, [2]string{"offer 2 1/1 2-3 " + size(30), "ok"}, [2]string{"calm 9", "yes"}, [2]string{"used", "90"}, [2]string{"held", "1"}, [2]string{"offer 0 2/1 2-3", "ok"}, [2]string{"calm 9", "yes"}, [2]string{"held", "1"}, [2]string{"used", "12"}, [2]string{"count", "4 0 0 1 3"})
	benches(t, "budget, one byte too many", [2]string{"offer 0 1/1 2-3 " + size(30), "ok"}, [2]string{"offer 1 1/1 2-3 " + size(30), "ok"}, [2]string{"calm 9", "yes"}, [2]string{"used", "60"}, [2]string{"offer 2 2/1 2-3 " + size(31), "ok"}, [2]string{"calm 9", "yes"}, [2]string{"used", "31"}, [2]string{"held", "1"}, [2]string{"count", "3 0 0 1 2"})
	benches(t, "cache", [2]string{"offer 0 1/1 2-3", "ok"}, [2]string{"offer 1 2/1 2-3", "ok"}, [2]string{"offer 2 3/1 2-3", "ok"}, [2]string{"calm 9", "yes"}, [2]string{"tick 3", "ok"}, [2]string{"calm 30", "yes"}, [2]string{"known", "2"}, [2]string{"offer 0 1/1 2-3", "ok"}, [2]string{"calm 9", "yes"}, [2]string{"held", "1"})
	benches(t, "queue", [2]string{"rule all", "ok"}, [2]string{"offer 0 1/1 2-3", "ok"}, [2]string{"offer 1 1/2 2-3", "ok"}, [2]string{"offer 2 1/3 2-3", "ok"}, [2]string{"calm 9", "yes"}, [2]string{"tick 3", "ok"},
		[2]string{"pick 3", "ok"}, [2]string{"pick 3", "ok"}, [2]string{"pick 3", "ok"}, [2]string{"pick 3", "ok"}, [2]string{"pick 3", "ok"}, [2]string{"pick 3", "ok"}, [2]string{"pick 3", "no"}, [2]string{"way", "2"}, [2]string{"task 3", "judge 3"})
	three := [][2]string{{"rule rate", "ok"}, {"offer 0 1/1 2-3", "ok"}, {"offer 1 1/2 2-3", "ok"}, {"offer 2 1/3 2-3", "ok"}, {"calm 9", "yes"}}
	benches(t, "burst", slices.Concat(three, [][2]string{{"tick 3", "ok"}, {"calm 30", "yes"}, {"deed 3", "judge 1 kept 3"}})...)
	benches(t, "burst, one more", slices.Concat(three, [][2]string{{"offer 0 1/4 2-3", "ok"}, {"calm 9", "yes"}, {"tick 3", "ok"}, {"calm 30", "yes"}, {"deed 4", "judge 1 dropped 4"}})...)
	again := [][2]string{{"tick 3", "ok"}, {"calm 30", "yes"}, {"deed 3", "judge 1 kept 3"}, {"offer 0 2/1 2-3", "ok"}, {"offer 1 2/2 2-3", "ok"}, {"calm 9", "yes"}, {"shut", "ok"}}
	benches(t, "rate, at once", slices.Concat(three, again, [][2]string{{"calm 30", "yes"}, {"deed 7", "judge 2 dropped 2"}})...)
	benches(t, "rate, a tick later", slices.Concat(three, again, [][2]string{{"tick 1", "ok"}, {"calm 30", "yes"}, {"deed 7", "judge 2 dropped 2"}})...)
	benches(t, "rate, two ticks later", slices.Concat(three, again, [][2]string{{"tick 2", "ok"}, {"calm 30", "yes"}, {"deed 7", "judge 2 kept 2"}})...)
	// Of two stripes 2 and 5 belong to one, of one or three they do not, or all do.
	benches(t, "stripes", [2]string{"offer 0 1/1 2-3", "ok"}, [2]string{"offer 1 2/1 2-3", "ok"}, [2]string{"offer 2 5/1 2-3", "ok"}, [2]string{"pick 0", "ok"}, [2]string{"pick 1", "ok"}, [2]string{"pick 2", "no"})
	three = [][2]string{}
	for i, line := range []string{"offer 0 1/1 2-3", "offer 1 3/1 2-3", "pick 0", "pick 1"} {
		three = append(three, [2]string{line, []string{"ok", "ok", "ok", "no"}[i]})
	}
	benches(t, "stripes, 1 and 3", three...)
}

func TestBenchThatIsTooLong(t *testing.T) {
	long := "too long\n"
	cases := []struct {
		name, in, want string
	}{
		{"MaxLines", strings.Repeat("time\n", 80), strings.Repeat("0\n", 80)},
		{"MaxLines, the last one without an end", strings.Repeat("time\n", 79) + "time", strings.Repeat("0\n", 80)},
		{"one line more", strings.Repeat("time\n", 81), long},
		{"one line more, without an end", strings.Repeat("time\n", 80) + "time", long},
		{"one byte more, that is a line", strings.Repeat("time\n", 80) + "x", long},
		{"empty lines", strings.Repeat("\n", 80), ""},
		{"one empty line more", strings.Repeat("\n", 81), long},
		{"empty lines, and one behind", strings.Repeat("\n", 80) + "time", long},
		{"empty lines, and one last", strings.Repeat("\n", 79) + "time\n", "0\n"},
		{"MaxBench", strings.Repeat("x", 4000), "what\n"},
		{"MaxBench, with an end", strings.Repeat("x", 3999) + "\n", "what\n"},
		{"one byte more", strings.Repeat("x", 4001), long},
		{"one byte more, the end", strings.Repeat("x", 4000) + "\n", long},
		{"MaxBench, of two bytes each", strings.Repeat("é", 2000), "what\n"},
		{"one more, of two bytes each", strings.Repeat("é", 2000) + "x", long},
		{"both", strings.Repeat("time \n", 1000), long},
		{"MaxBench and MaxLines", strings.Repeat(strings.Repeat("x", 49)+"\n", 80), strings.Repeat("what\n", 80)},
		{"MaxBench, and too many lines", strings.Repeat("\n", 4000), long},
		{"far too long", strings.Repeat("time\n", 100000), long},
	}
	for _, c := range cases {
		if got := impl.Bench(c.in); got != c.want {
			t.Errorf("%s: %.100q", c.name, got)
		}
	}
	if impl.MaxBench != 4000 || impl.MaxLines != 80 {
		t.Error("MaxBench, MaxLines")
	}
}

// Lines of all words, right and wrong.
func someLines(seed uint32, many int) []string {
	roll := func(n int) int {
		seed = seed*1664525 + 1013904223
		return int(seed>>16) % n
	}
	any := func(l ...string) string { return l[roll(len(l))] }
	digit := func(n int) string { return string(rune('0' + roll(n))) }
	out := []string{}
	for range many {
		line := "pick " + digit(6)
		switch roll(12) {
		case 0, 1, 2:
			line = "offer " + digit(4) + " " + digit(7) + "/" + digit(9) + " 1-" + digit(9) + any("", "", " failed", " k=5", " k=\"x\"", " ")
		case 3:
			line = any("tick ", "calm ") + digit(5)
		case 4:
			line = any("take", "take", "take", "shut", "", "hop", "take ")
		case 5:
			line = any("task ", "deed ", "out ", "pick ", "room ") + digit(10)
		case 6, 7:
			line = any("count", "time", "used", "held", "due", "way", "known", "deeds", "linear", "whole", "settled", "stuck")
		case 8:
			if roll(6) == 0 {
				line = any("rule all", "rule rate", "rule or(err, num k 3)", "rule not(err)", "rule nope", "room 30", "room 60", "room 191")
			}
		}
		out = append(out, line)
	}
	return out
}

// Promise 28: the answers to the first lines do not change by those behind.
func TestTheBenchHangsOnTheLinesAheadAlone(t *testing.T) {
	for round := range 40 {
		lines := someLines(uint32(round)+5, 80)
		whole := impl.Bench(strings.Join(lines, "\n"))
		if whole != impl.Bench(strings.Join(lines, "\n")) {
			t.Errorf("round %d: the same lines are answered otherwise", round)
		}
		answers := strings.SplitAfter(whole, "\n")
		n := 0
		for i := range lines {
			if lines[i] != "" {
				n++
			}
			want := strings.Join(answers[:n], "")
			for _, end := range []string{"", "\n"} {
				if got := impl.Bench(strings.Join(lines[:i+1], "\n") + end); got != want {
					t.Fatalf("round %d: of %d lines: %q, not %q", round, i+1, got, want)
				}
			}
		}
		if len(answers) != n+1 || answers[n] != "" {
			t.Errorf("round %d: %d lines, %d answers", round, n, len(answers)-1)
		}
	}
}

// The bench is held against the functions that it leads to.
func TestTheBenchAnswersAsTheFunctionsDo(t *testing.T) {
	yes := map[bool]string{true: "yes", false: "no"}
	for round := range 60 {
		lines := someLines(uint32(round)+777, 60)
		c := impl.Conf{Stripes: 2, Wait: 3, Budget: 90, Cache: 2, Queue: 2, Rate: 1, Burst: 3, Rule: errPol}
		w := impl.WorldNew(c)
		want := []string{}
		happens := func(e impl.Event) string {
			next, ok := impl.DoEvent(w, e)
			w = next
			return map[bool]string{true: "ok", false: "no"}[ok]
		}
		for _, line := range lines {
			f := strings.SplitN(line, " ", 3)
			n := 0
			if len(f) > 1 {
				n = number(f[1])
			}
			answer := "what"
			switch {
			case line == "":
				continue
			case f[0] == "offer":
				if s, ok := wantedSpan(f[2]); ok {
					answer = happens(offerEvent(n, s))
				}
			case f[0] == "rule":
				if p, ok := wantedPol(line[5:]); ok {
					c.Rule = p
					w, answer = impl.WorldNew(c), "ok"
				}
			case f[0] == "room":
				next := c
				next.Budget = n
				if answer = "no"; impl.ConfOk(next) {
					c, w, answer = next, impl.WorldNew(next), "ok"
				}
			case f[0] == "pick":
				answer = happens(pickEvent(n))
			case f[0] == "tick":
				answer = happens(tickEvent(n))
			case line == "take":
				answer = happens(takeEvent)
			case line == "shut":
				answer = happens(shutEvent)
			case f[0] == "calm":
				w = impl.Calm(w, n)
				answer = yes[impl.Quiet(w)]
			case f[0] == "task" || f[0] == "deed" || f[0] == "out":
				if answer = "none"; f[0] == "task" && n < 5 {
					answer = impl.TaskText(w.Tasks[n])
				} else if f[0] == "deed" && n < len(w.Deeds) {
					answer = impl.DeedText(w.Deeds[n])
				} else if f[0] == "out" && n < len(w.Out) {
					answer = impl.ItemText(w.Out[n])
				}
			default:
				numbers := map[string]int{"time": w.W.Now, "used": w.Used, "held": len(impl.OpenTrails(w.St)), "due": len(w.Due), "way": len(w.Queue), "known": len(w.Cache), "deeds": len(w.Deeds)}
				asked := map[string]string{"count": impl.CountText(impl.CountOf(w)), "linear": yes[impl.Linear(w)], "whole": yes[impl.Whole(w)], "settled": yes[impl.Settled(w)], "stuck": yes[impl.Stuck(w)]}
				if x, ok := numbers[line]; ok {
					answer = impl.NumText(x)
				} else if x, ok := asked[line]; ok {
					answer = x
				}
			}
			want = append(want, answer)
		}
		got := strings.Split(strings.TrimSuffix(impl.Bench(strings.Join(lines, "\n")), "\n"), "\n")
		if !slices.Equal(got, want) {
			t.Fatalf("round %d: %q: %q, not %q", round, lines, got, want)
		}
	}
}
