package tests

import (
	"math"
	"math/big"
	"strings"
	"testing"

	"loop.example/g00488/impl"
)

// Amounts at and around every bound that chapter 1 and the kind int have.
var edgeAmounts = []int{
	math.MinInt, math.MinInt + 1, -impl.MaxNum - 1, -impl.MaxNum, -12, -2, -1,
	0, 1, 2, 3, 7, 12, 46340, 46341, 65535, 65536, 1 << 30, 1<<30 - 1,
	impl.MaxNum - 1, impl.MaxNum, impl.MaxNum + 1, impl.MaxNum + 2, 2 * impl.MaxNum,
	1 << 32, 1<<32 + 5, 1<<62 - 1, 1 << 62, math.MaxInt - 1, math.MaxInt,
}

// What the document asks of Cap, worked out in numbers that have no bound of their own.
func wantedCap(n *big.Int) *big.Int {
	if n.Sign() < 0 {
		return big.NewInt(0)
	}
	if most := big.NewInt(2147483647); n.Cmp(most) > 0 {
		return most
	}
	return n
}

func TestMaxNum(t *testing.T) {
	if impl.MaxNum != 2147483647 {
		t.Errorf("MaxNum is %d", impl.MaxNum)
	}
}

func TestCap(t *testing.T) {
	cases := []struct{ n, want int }{
		{math.MinInt, 0}, {-1, 0}, {0, 0}, {1, 1}, {2147483646, 2147483646},
		{2147483647, 2147483647}, {2147483648, 2147483647}, {math.MaxInt, 2147483647},
	}
	for _, c := range cases {
		if got := impl.Cap(c.n); got != c.want {
			t.Errorf("Cap(%d) = %d, want %d", c.n, got, c.want)
		}
	}
}

func TestAmountsByExample(t *testing.T) {
	const most = 2147483647
	cases := []struct {
		name            string
		got, want, a, b int
	}{
		{"Add", impl.Add(2, 3), 5, 2, 3},
		{"Add", impl.Add(0, 0), 0, 0, 0},
		{"Add", impl.Add(-4, 1), 1, -4, 1},
		{"Add", impl.Add(1, -4), 1, 1, -4},
		{"Add", impl.Add(-4, -1), 0, -4, -1},
		{"Add", impl.Add(most, -1), most, most, -1},
		{"Add", impl.Add(most-1, 1), most, most - 1, 1},
		{"Add", impl.Add(most, 1), most, most, 1},
		{"Add", impl.Add(math.MaxInt, math.MaxInt), most, math.MaxInt, math.MaxInt},
		{"Add", impl.Add(math.MinInt, math.MinInt), 0, math.MinInt, math.MinInt},
		{"Add", impl.Add(math.MinInt, math.MaxInt), most, math.MinInt, math.MaxInt},
		{"Sub", impl.Sub(5, 3), 2, 5, 3},
		{"Sub", impl.Sub(3, 5), 0, 3, 5},
		{"Sub", impl.Sub(3, 3), 0, 3, 3},
		{"Sub", impl.Sub(5, -3), 5, 5, -3},
		{"Sub", impl.Sub(-5, -9), 0, -5, -9},
		{"Sub", impl.Sub(most+9, 1), most - 1, most + 9, 1},
		{"Sub", impl.Sub(most+9, most+1), 0, most + 9, most + 1},
		{"Sub", impl.Sub(0, math.MinInt), 0, 0, math.MinInt},
		{"Sub", impl.Sub(math.MinInt, math.MaxInt), 0, math.MinInt, math.MaxInt},
		{"Sub", impl.Sub(math.MaxInt, math.MinInt), most, math.MaxInt, math.MinInt},
		{"Mul", impl.Mul(3, 4), 12, 3, 4},
		{"Mul", impl.Mul(0, most), 0, 0, most},
		{"Mul", impl.Mul(1, most), most, 1, most},
		{"Mul", impl.Mul(-2, -3), 0, -2, -3},
		{"Mul", impl.Mul(-2, 3), 0, -2, 3},
		{"Mul", impl.Mul(46340, 46340), 2147395600, 46340, 46340},
		{"Mul", impl.Mul(46341, 46341), most, 46341, 46341},
		{"Mul", impl.Mul(65536, 65536), most, 65536, 65536},
		{"Mul", impl.Mul(1<<32, 1<<32), most, 1 << 32, 1 << 32},
		{"Mul", impl.Mul(math.MaxInt, math.MaxInt), most, math.MaxInt, math.MaxInt},
		{"Mul", impl.Mul(math.MinInt, math.MinInt), 0, math.MinInt, math.MinInt},
		{"Mul", impl.Mul(math.MinInt, math.MaxInt), 0, math.MinInt, math.MaxInt},
	}
	for _, c := range cases {
		if c.got != c.want {
			t.Errorf("%s(%d, %d) = %d, want %d", c.name, c.a, c.b, c.got, c.want)
		}
	}
}

// Promise 1: what is added, taken away or multiplied stays within bounds, and is what the document says.
func TestAmountsStayWithinBounds(t *testing.T) {
	ways := []struct {
		name string
		got  func(a int, b int) int
		want func(z, a, b *big.Int) *big.Int
	}{
		{"Add", impl.Add, (*big.Int).Add},
		{"Sub", impl.Sub, (*big.Int).Sub},
		{"Mul", impl.Mul, (*big.Int).Mul},
	}
	for _, way := range ways {
		for _, a := range edgeAmounts {
			for _, b := range edgeAmounts {
				got := way.got(a, b)
				if got < 0 || got > 2147483647 {
					t.Errorf("%s(%d, %d) = %d is out of bounds", way.name, a, b, got)
				}
				exact := way.want(new(big.Int), wantedCap(big.NewInt(int64(a))), wantedCap(big.NewInt(int64(b))))
				if want := wantedCap(exact); want.Cmp(big.NewInt(int64(got))) != 0 {
					t.Errorf("%s(%d, %d) = %d, want %s", way.name, a, b, got, want)
				}
			}
		}
	}
}

func TestCapAtEveryEdge(t *testing.T) {
	for _, n := range edgeAmounts {
		if got, want := impl.Cap(n), wantedCap(big.NewInt(int64(n))); want.Cmp(big.NewInt(int64(got))) != 0 {
			t.Errorf("Cap(%d) = %d, want %s", n, got, want)
		}
	}
}

func TestNumText(t *testing.T) {
	cases := []struct {
		n    int
		want string
	}{
		{0, "0"}, {7, "7"}, {10, "10"}, {-1, "-1"}, {-12, "-12"},
		{2147483647, "2147483647"}, {2147483648, "2147483648"}, {-2147483648, "-2147483648"},
		{math.MaxInt, "9223372036854775807"}, {math.MinInt, "-9223372036854775808"},
	}
	for _, c := range cases {
		if got := impl.NumText(c.n); got != c.want {
			t.Errorf("NumText(%d) = %q, want %q", c.n, got, c.want)
		}
	}
}

func TestNumTextComesBack(t *testing.T) {
	for _, n := range edgeAmounts {
		got, ok := impl.ParseNum(impl.NumText(n))
		if within := n >= 0 && n <= 2147483647; ok != within || within && got != n || !within && got != 0 {
			t.Errorf("ParseNum of NumText of %d = %d, %v", n, got, ok)
		}
	}
	for n := range 12000 {
		if got, ok := impl.ParseNum(impl.NumText(n)); !ok || got != n {
			t.Errorf("ParseNum of NumText of %d = %d, %v", n, got, ok)
		}
	}
}

func TestParseNumReads(t *testing.T) {
	for s, want := range map[string]int{"0": 0, "1": 1, "9": 9, "10": 10, "1000000000": 1000000000, "2147483646": 2147483646, "2147483647": 2147483647} {
		if got, ok := impl.ParseNum(s); !ok || got != want {
			t.Errorf("ParseNum(%q) = %d, %v", s, got, ok)
		}
	}
}

func TestParseNumRefuses(t *testing.T) {
	wrong := []string{
		"", " ", "00", "01", "007", "0000000000", "-", "-0", "-1", "+", "+0", "+1", "2147483648", "2147483650", "4294967296", "4294967297",
		"9999999999", "12345678901", "9223372036854775807", "9223372036854775808", "18446744073709551616", "18446744073709551617",
		strings.Repeat("9", 10000), "1" + strings.Repeat("0", 10000), strings.Repeat("0", 10000), strings.Repeat("0", 10000) + "1",
		" 1", "1 ", "1\n", "\n1", "1x", "x1", "x", "1_000", "0x1", "1.0", "1e3", "1,5", "/", ":", "1/", "1:", "\x001", "1\x00",
		"\xff", "1\xff", "\xb1", "\u0661", "1\u0661", "\uff11", "\u00b2",
	}
	for _, s := range wrong {
		if got, ok := impl.ParseNum(s); ok || got != 0 {
			t.Errorf("ParseNum(%.30q) of %d bytes = %d, %v", s, len(s), got, ok)
		}
	}
}

// Each byte on its own, and behind a digit: digits alone are read.
func TestParseNumByBytes(t *testing.T) {
	for b := range 256 {
		digit := b >= '0' && b <= '9'
		if n, ok := impl.ParseNum(string([]byte{byte(b)})); ok != digit || digit && n != b-'0' || !digit && n != 0 {
			t.Errorf("ParseNum of the byte %d = %d, %v", b, n, ok)
		}
		if n, ok := impl.ParseNum(string([]byte{'4', byte(b)})); ok != digit || digit && n != 40+b-'0' || !digit && n != 0 {
			t.Errorf("ParseNum of 4 and the byte %d = %d, %v", b, n, ok)
		}
	}
}

func TestNameOk(t *testing.T) {
	for _, s := range []string{"a", "z", "m", "az", "sevenab", "eightabc", "aaaaaaaa", "zzzzzzzz"} {
		if !impl.NameOk(s) {
			t.Errorf("NameOk(%q) is false", s)
		}
	}
	wrong := []string{
		"", "ninechars", "aaaaaaaaa", strings.Repeat("a", 10000), "A", "aB", "Z", "a1", "1", "a b", " a", "a ", "a_", "a-b", "`", "{", "a`", "a{",
		"\x00", "a\x00", "\xff", "a\xff", "\xe4", "\u00e4", "a\u00e4", "\u0430", "\uff41",
	}
	for _, s := range wrong {
		if impl.NameOk(s) {
			t.Errorf("NameOk(%.30q) is true", s)
		}
	}
}

// Each byte on its own, first, and last of 8: small letters alone are of a name.
func TestNameOkByBytes(t *testing.T) {
	for b := range 256 {
		letter := b >= 'a' && b <= 'z'
		one := string([]byte{byte(b)})
		for _, s := range []string{one, one + "abcdefg", "abcdefg" + one} {
			if impl.NameOk(s) != letter {
				t.Errorf("NameOk(%q) is %v", s, !letter)
			}
		}
	}
}

func TestPlainOk(t *testing.T) {
	for _, s := range []string{"", " ", "~", "!", "#", "a b", "A=1, 'b'\\", "twentybytesarehere20", strings.Repeat(" ", 20), strings.Repeat("~", 20)} {
		if !impl.PlainOk(s) {
			t.Errorf("PlainOk(%q) is false", s)
		}
	}
	wrong := []string{
		"\"", "a\"b", "\"\"", "\x1f", "a\x1f", "\x7f", "a\x7f", "\x00", "\n", "\t", "\x80", "\xff", "a\xffb", "\u00e4", "\u20ac", "\ufffd", "\U0001f600",
		"twentyonebytesarehere", strings.Repeat(" ", 21), strings.Repeat("a", 10000), strings.Repeat("\u00e4", 10), strings.Repeat("\u00e4", 11),
		strings.Repeat("a", 19) + "\"", strings.Repeat("a", 19) + "\x7f",
	}
	for _, s := range wrong {
		if impl.PlainOk(s) {
			t.Errorf("PlainOk(%.30q) of %d bytes is true", s, len(s))
		}
	}
}

// Each byte on its own, first, and last of 20, and each of them in a text of 21.
func TestPlainOkByBytes(t *testing.T) {
	nineteen := strings.Repeat("a", 19)
	for b := range 256 {
		plain := b >= 32 && b <= 126 && b != '"'
		one := string([]byte{byte(b)})
		for _, s := range []string{one, one + nineteen, nineteen + one} {
			if impl.PlainOk(s) != plain {
				t.Errorf("PlainOk(%q) is %v", s, !plain)
			}
		}
		if s := nineteen + "a" + one; impl.PlainOk(s) {
			t.Errorf("PlainOk(%q) of 21 bytes is true", s)
		}
	}
}
