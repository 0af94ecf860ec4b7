// Package num is layer 1: checked integer arithmetic (see shared/doc/01-num.md).
package num

import (
	"math"
	"strconv"
	"strings"
	"testbench/api"
)

// Add returns a + b.
func Add(a, b int) (int, api.Errno) {
	sum := a + b
	if (b >= 0) != (sum >= a) {
		return 0, api.ErrOverflow
	}
	return sum, api.OK
}

// Sub returns a - b.
func Sub(a, b int) (int, api.Errno) {
	difference := a - b
	if (b >= 0) != (difference <= a) {
		return 0, api.ErrOverflow
	}
	return difference, api.OK
}

// Mul returns a * b.
func Mul(a, b int) (int, api.Errno) {
	if a == 0 {
		return 0, api.OK
	}
	// The quotient that detects an overflow wraps around itself if it divides -2^63 by -1.
	if a == -1 {
		return Sub(0, b)
	}
	product := a * b
	if product/a != b {
		return 0, api.ErrOverflow
	}
	return product, api.OK
}

// Div returns a / b, rounded down.
func Div(a, b int) (int, api.Errno) {
	if b == 0 {
		return 0, api.ErrDivide
	}
	if b == -1 {
		return Sub(0, a)
	}
	quotient := a / b
	// Go rounds towards 0, which is up if the exact quotient is negative.
	if a%b != 0 && (a < 0) != (b < 0) {
		quotient--
	}
	return quotient, api.OK
}

// Pow returns the product of n factors a.
func Pow(a, n int) (int, api.Errno) {
	if n < 0 {
		return 0, api.ErrArg
	}
	// The powers of -1, 0 and 1 repeat and never overflow: without this, a great n would take as many steps.
	if size(a) <= 1 {
		n = min(n, 2-n%2)
	}
	power := 1
	for range n {
		next, err := Mul(power, a)
		if err != api.OK {
			return 0, err
		}
		power = next
	}
	return power, api.OK
}

// Gcd returns the greatest common divisor of a and b; 0 if there is none, or if it is not an int.
func Gcd(a, b int) int {
	x, y := size(a), size(b)
	for y != 0 {
		x, y = y, x%y
	}
	if x > math.MaxInt {
		return 0
	}
	return int(x)
}

// Lcm returns the least common multiple of a and b; 0 if one of them is 0.
func Lcm(a, b int) (int, api.Errno) {
	if a == 0 || b == 0 {
		return 0, api.OK
	}
	// A positive multiple of -2^63 is at least 2^63.
	if a == math.MinInt || b == math.MinInt {
		return 0, api.ErrOverflow
	}
	return Mul(int(size(a))/Gcd(a, b), int(size(b)))
}

// size is unsigned because the size of -2^63 is not an int.
func size(n int) uint64 {
	if n < 0 {
		return -uint64(n)
	}
	return uint64(n)
}

// Format returns the decimal form of n.
func Format(n int) string {
	return strconv.Itoa(n)
}

// Parse returns the int with the decimal form s.
func Parse(s string) (int, api.Errno) {
	digits := strings.TrimPrefix(s, "-")
	end := 0
scan:
	for end < len(digits) {
		c := digits[end]
		switch {
		case c < '0' || c > '9':
			break scan
		case c == '0' && end == 0 && s != "0":
			break scan
		}
		end++
	}
	if end == 0 || end < len(digits) {
		return 0, api.ErrSyntax
	}
	// The form is right, so the only error left is that of the range.
	n, err := strconv.Atoi(s)
	if err != nil {
		return 0, api.ErrOverflow
	}
	return n, api.OK
}
