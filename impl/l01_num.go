package impl

import "strconv"

const MaxNum = 2147483647

const (
	maxNameBytes  = 8
	maxPlainBytes = 20
)

func Cap(n int) int {
	if n < 0 {
		return 0
	}
	if n > MaxNum {
		return MaxNum
	}
	return n
}

func amountOk(n int) bool {
	return n >= 0 && n <= MaxNum
}

func Add(a int, b int) int {
	return sumOf(a, b)
}

func Sub(a int, b int) int {
	return Cap(Cap(a) - Cap(b))
}

// The product of two capped numbers is below 2 to the power of 62, so it cannot wrap round ahead of the last Cap.
func Mul(a int, b int) int {
	return Cap(Cap(a) * Cap(b))
}

// The sum is capped part by part, not once at its end, so that no row of parts is long enough to wrap it round.
func sumOf(parts ...int) int {
	sum := 0
	for _, part := range parts {
		sum = Cap(sum + Cap(part))
	}
	return sum
}

func NumText(n int) string {
	return strconv.Itoa(n)
}

// It gives up at the first digit that leads above MaxNum, so that no text is long enough to wrap the number round.
func ParseNum(s string) (int, bool) {
	if s == "" || hasNeedlessNought(s) {
		return 0, false
	}
	n := 0
	for _, r := range s {
		if !isDigit(r) {
			return 0, false
		}
		n = n*10 + int(r-'0')
		if n > MaxNum {
			return 0, false
		}
	}
	return n, true
}

func hasNeedlessNought(s string) bool {
	return len(s) > 1 && s[0] == '0'
}

func isDigit(r rune) bool {
	return r >= '0' && r <= '9'
}

func NameOk(s string) bool {
	if s == "" || len(s) > maxNameBytes {
		return false
	}
	for _, r := range s {
		if r < 'a' || r > 'z' {
			return false
		}
	}
	return true
}

// A byte above 126 is part of a rune above 126, or is ranged over as the rune of a wrong byte, which is above it, too.
func PlainOk(s string) bool {
	if len(s) > maxPlainBytes {
		return false
	}
	for _, r := range s {
		if r < ' ' || r > '~' || r == '"' {
			return false
		}
	}
	return true
}
