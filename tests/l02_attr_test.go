package tests

import (
	"slices"
	"strconv"
	"strings"
	"testing"

	"loop.example/g00488/impl"
)

const twentyBytes = "twenty bytes in all."

func numAttr(key string, n int) impl.Attr {
	return impl.Attr{Key: key, Num: true, N: n}
}

func textAttr(key, text string) impl.Attr {
	return impl.Attr{Key: key, Text: text}
}

func TestAttrsByExample(t *testing.T) {
	cases := []struct {
		a    impl.Attr
		size int
		text string
	}{
		{numAttr("code", 200), 8, "code=200"},
		{numAttr("k", 0), 5, "k=0"},
		{numAttr("k", impl.MaxNum), 5, "k=2147483647"},
		{numAttr("abcdefgh", 7), 12, "abcdefgh=7"},
		{textAttr("path", "a b"), 7, `path="a b"`},
		{textAttr("k", ""), 1, `k=""`},
		{textAttr("k", "0"), 2, `k="0"`},
		{textAttr("k", "=,\\'"), 5, `k="=,\'"`},
		{textAttr("k", " ~"), 3, `k=" ~"`},
		{textAttr("abcdefgh", twentyBytes), 28, `abcdefgh="twenty bytes in all."`},
	}
	for _, c := range cases {
		if !impl.AttrOk(c.a) {
			t.Errorf("AttrOk(%+v) is false", c.a)
		}
		if got := impl.AttrSize(c.a); got != c.size {
			t.Errorf("AttrSize(%+v) = %d, want %d", c.a, got, c.size)
		}
		if got := impl.AttrText(c.a); got != c.text {
			t.Errorf("AttrText(%+v) = %q, want %q", c.a, got, c.text)
		}
	}
}

// What is not right has a size all the same: it is worked out of what the kind names alone.
func TestAttrsThatAreNotRight(t *testing.T) {
	cases := []struct {
		a    impl.Attr
		size int
	}{
		{impl.Attr{}, 0},
		{impl.Attr{Num: true}, 4},
		{numAttr("", 3), 4},
		{textAttr("", "x"), 1},
		{numAttr("abcdefghi", 3), 13},
		{textAttr("abcdefghi", "x"), 10},
		{numAttr("K", 3), 5},
		{numAttr("a b", 3), 7},
		{textAttr("k1", "x"), 3},
		{textAttr("\u00e9", "x"), 3},
		{numAttr("k", impl.MaxNum+1), 5},
		{numAttr("k", -1), 5},
		{impl.Attr{Key: "k", Num: true, N: 1, Text: "x"}, 5},
		{impl.Attr{Key: "k", Num: true, Text: "long beside it"}, 5},
		{impl.Attr{Key: "k", N: 1}, 1},
		{impl.Attr{Key: "k", N: 1, Text: "x"}, 2},
		{impl.Attr{Key: "k", N: -1, Text: "x"}, 2},
		{textAttr("k", twentyBytes+"x"), 22},
		{textAttr("k", `a"b`), 4},
		{textAttr("k", "\x1f"), 2},
		{textAttr("k", "\x00"), 2},
		{textAttr("k", "\x7f"), 2},
		{textAttr("k", "\xff"), 2},
		{textAttr("k", "\u00e9"), 3},
		{textAttr("k", strings.Repeat("x", 1000)), 1001},
	}
	for _, c := range cases {
		if impl.AttrOk(c.a) {
			t.Errorf("AttrOk(%+v) is true", c.a)
		}
		if got := impl.AttrText(c.a); got != "" {
			t.Errorf("AttrText(%+v) = %q, want nothing", c.a, got)
		}
		if got := impl.AttrSize(c.a); got != c.size {
			t.Errorf("AttrSize(%+v) = %d, want %d", c.a, got, c.size)
		}
	}
}

func TestAttrOkByBytes(t *testing.T) {
	for b := range 256 {
		text := string([]byte{'x', byte(b), 'y'})
		if got, want := impl.AttrOk(textAttr("k", text)), b >= 32 && b <= 126 && b != '"'; got != want {
			t.Errorf("AttrOk of the text %q is %v", text, got)
		}
		key := string([]byte{'x', byte(b), 'y'})
		if got, want := impl.AttrOk(numAttr(key, 1)), b >= 'a' && b <= 'z'; got != want {
			t.Errorf("AttrOk of the name %q is %v", key, got)
		}
	}
}

func TestAttrNumbersAtEveryEdge(t *testing.T) {
	for _, n := range edgeAmounts {
		inBounds := n >= 0 && n <= 2147483647
		if got := impl.AttrOk(numAttr("k", n)); got != inBounds {
			t.Errorf("AttrOk of the number %d is %v", n, got)
		}
		want := ""
		if inBounds {
			want = "k=" + strconv.Itoa(n)
		}
		if got := impl.AttrText(numAttr("k", n)); got != want {
			t.Errorf("AttrText of the number %d is %q, want %q", n, got, want)
		}
		if got := impl.AttrOk(impl.Attr{Key: "k", N: n}); got != (n == 0) {
			t.Errorf("AttrOk of a text with the number %d is %v", n, got)
		}
	}
}

func TestAttrsOk(t *testing.T) {
	a, b, c, d, e := numAttr("a", 1), textAttr("b", "x"), numAttr("c", 0), textAttr("d", ""), numAttr("e", 1)
	cases := []struct {
		name string
		l    []impl.Attr
		want bool
	}{
		{"nil", nil, true},
		{"empty", []impl.Attr{}, true},
		{"one", []impl.Attr{a}, true},
		{"four", []impl.Attr{a, b, c, d}, true},
		{"five", []impl.Attr{a, b, c, d, e}, false},
		{"out of order", []impl.Attr{b, a}, false},
		{"the last two out of order", []impl.Attr{a, c, b}, false},
		{"the same twice", []impl.Attr{a, a}, false},
		{"one name twice", []impl.Attr{a, textAttr("a", "x")}, false},
		{"one name twice, at the end", []impl.Attr{a, b, c, numAttr("c", 9)}, false},
		{"a beginning ahead", []impl.Attr{a, numAttr("aa", 1), numAttr("ab", 1), numAttr("b", 1)}, true},
		{"a beginning behind", []impl.Attr{numAttr("aa", 1), a}, false},
		{"a long name ahead of a short one", []impl.Attr{numAttr("abcdefgh", 1), b}, true},
		{"one that is not right, first", []impl.Attr{{}, a}, false},
		{"one that is not right, last", []impl.Attr{a, {Key: "b", N: 1}}, false},
		{"one that is not right, alone", []impl.Attr{numAttr("a", -1)}, false},
	}
	for _, c := range cases {
		if got := impl.AttrsOk(c.l); got != c.want {
			t.Errorf("AttrsOk of %s is %v", c.name, got)
		}
	}
}

func TestAttrsOkIgnoresWhatLiesBehind(t *testing.T) {
	room := []impl.Attr{numAttr("a", 1), numAttr("b", 1), {Key: "not a name"}, {}, {}, {}}
	if !impl.AttrsOk(room[:2]) {
		t.Error("what lies behind the list's length was looked at")
	}
	if _, ok := impl.FindAttr(room[:1], "b"); ok {
		t.Error("what lies behind the list's length was found")
	}
}

func TestFindAttr(t *testing.T) {
	first, second := numAttr("b", 1), textAttr("b", "later")
	l := []impl.Attr{textAttr("c", "x"), first, second, textAttr("a", "z"), {N: -3}}
	cases := []struct {
		l    []impl.Attr
		key  string
		want impl.Attr
		ok   bool
	}{
		{l, "c", l[0], true},
		{l, "b", first, true},
		{[]impl.Attr{second, first}, "b", second, true},
		{l, "a", l[3], true},
		{l, "", l[4], true},
		{l, "d", impl.Attr{}, false},
		{l, "B", impl.Attr{}, false},
		{l, "bb", impl.Attr{}, false},
		{l[:4], "", impl.Attr{}, false},
		{nil, "a", impl.Attr{}, false},
		{nil, "", impl.Attr{}, false},
		{[]impl.Attr{}, "a", impl.Attr{}, false},
		{[]impl.Attr{numAttr("ab", 1), numAttr("abc", 2)}, "a", impl.Attr{}, false},
		{[]impl.Attr{numAttr("ab", 1), numAttr("abc", 2)}, "abc", numAttr("abc", 2), true},
		{[]impl.Attr{numAttr("not a name", -1)}, "not a name", numAttr("not a name", -1), true},
	}
	for _, c := range cases {
		if got, ok := impl.FindAttr(c.l, c.key); got != c.want || ok != c.ok {
			t.Errorf("FindAttr(%+v, %q) = %+v, %v, want %+v, %v", c.l, c.key, got, ok, c.want, c.ok)
		}
	}
}

// Promise 2, over all lists of up to three Attrs of a few names: what is found is of the name, and none ahead of it is.
func TestWhatIsFoundIsOfTheName(t *testing.T) {
	names := []string{"", "a", "b", "ab", "A"}
	var check func(l []impl.Attr)
	check = func(l []impl.Attr) {
		before := slices.Clone(l)
		for _, key := range names {
			got, ok := impl.FindAttr(l, key)
			place := slices.IndexFunc(before, func(a impl.Attr) bool { return a.Key == key })
			if ok != (place >= 0) || ok && (got.Key != key || got != before[place]) || !ok && got != (impl.Attr{}) {
				t.Errorf("FindAttr(%+v, %q) = %+v, %v", before, key, got, ok)
			}
		}
		if !slices.Equal(l, before) {
			t.Errorf("FindAttr changed %+v to %+v", before, l)
		}
		if len(l) == 3 {
			return
		}
		for _, key := range names {
			check(append(slices.Clone(l), numAttr(key, len(l)+1)))
		}
	}
	check(nil)
}
