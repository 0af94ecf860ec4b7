package num_test

import (
	"math"
	"math/big"
	"strings"
	"testing"

	"testbench/api"
	"testbench/num"
)

const (
	least    = math.MinInt
	greatest = math.MaxInt
)

type call struct {
	a, b, want int
	err        api.Errno
}

func check(t *testing.T, name string, f func(a, b int) (int, api.Errno), calls []call) {
	t.Helper()
	for _, c := range calls {
		if got, err := f(c.a, c.b); got != c.want || err != c.err {
			t.Errorf("%s(%d, %d) = %d, %d; want %d, %d", name, c.a, c.b, got, err, c.want, c.err)
		}
	}
}

// samples has small numbers and those around the powers of two and the roots where results cease to fit.
func samples() []int {
	list := []int{3037000499, 3037000500, -3037000499, -3037000500, 2097151, 2097152, greatest / 3, least / 3}
	for n := -20; n <= 20; n++ {
		list = append(list, n)
	}
	for _, shift := range []uint{31, 32, 61, 62, 63} {
		for d := -2; d <= 2; d++ {
			list = append(list, 1<<shift+d, -1<<shift+d)
		}
	}
	return list
}

// checkAll compares f with exact arithmetic for all pairs of samples that f accepts.
func checkAll(t *testing.T, name string, f func(a, b int) (int, api.Errno), accepts func(a, b int) bool, exact func(a, b *big.Int) *big.Int) {
	t.Helper()
	for _, a := range samples() {
		for _, b := range samples() {
			if !accepts(a, b) {
				continue
			}
			want, wantErr := expected(exact(big.NewInt(int64(a)), big.NewInt(int64(b))))
			if got, err := f(a, b); got != want || err != wantErr {
				t.Errorf("%s(%d, %d) = %d, %d; want %d, %d", name, a, b, got, err, want, wantErr)
			}
		}
	}
}

func expected(n *big.Int) (int, api.Errno) {
	if !n.IsInt64() {
		return 0, api.ErrOverflow
	}
	return int(n.Int64()), api.OK
}

func anyPair(a, b int) bool { return true }

// P1.1
func TestAdd(t *testing.T) {
	check(t, "Add", num.Add, []call{
		{0, 0, 0, api.OK},
		{2, -5, -3, api.OK},
		{greatest, 0, greatest, api.OK},
		{greatest, least, -1, api.OK},
		{greatest - 1, 1, greatest, api.OK},
		{least + 1, -1, least, api.OK},
		{greatest, 1, 0, api.ErrOverflow},
		{1, greatest, 0, api.ErrOverflow},
		{least, -1, 0, api.ErrOverflow},
		{-1, least, 0, api.ErrOverflow},
		{least, least, 0, api.ErrOverflow},
		{greatest, greatest, 0, api.ErrOverflow},
	})
	checkAll(t, "Add", num.Add, anyPair, func(a, b *big.Int) *big.Int { return a.Add(a, b) })
}

// P1.1
func TestSub(t *testing.T) {
	check(t, "Sub", num.Sub, []call{
		{0, 0, 0, api.OK},
		{2, 5, -3, api.OK},
		{-1, least, greatest, api.OK},
		{least, least, 0, api.OK},
		{least, 0, least, api.OK},
		{0, greatest, -greatest, api.OK},
		{0, least, 0, api.ErrOverflow},
		{least, 1, 0, api.ErrOverflow},
		{-2, greatest, 0, api.ErrOverflow},
		{greatest, -1, 0, api.ErrOverflow},
	})
	checkAll(t, "Sub", num.Sub, anyPair, func(a, b *big.Int) *big.Int { return a.Sub(a, b) })
}

// P1.1
func TestMul(t *testing.T) {
	check(t, "Mul", num.Mul, []call{
		{0, least, 0, api.OK},
		{least, 0, 0, api.OK},
		{-7, 6, -42, api.OK},
		{-1, greatest, -greatest, api.OK},
		{1, least, least, api.OK},
		{least, 1, least, api.OK},
		{-1 << 32, 1 << 31, least, api.OK},
		{1 << 32, -1 << 31, least, api.OK},
		{1 << 32, 1 << 31, 0, api.ErrOverflow},
		{-1 << 32, -1 << 31, 0, api.ErrOverflow},
		{1 << 32, 1 << 32, 0, api.ErrOverflow},
		{least, -1, 0, api.ErrOverflow},
		{-1, least, 0, api.ErrOverflow},
		{least, least, 0, api.ErrOverflow},
		{greatest, 2, 0, api.ErrOverflow},
		{3037000500, 3037000500, 0, api.ErrOverflow},
	})
	checkAll(t, "Mul", num.Mul, anyPair, func(a, b *big.Int) *big.Int { return a.Mul(a, b) })
}

// roundDown is exact: big.Int.Div rounds up if the divisor is negative, so that case is turned around.
func roundDown(a, b *big.Int) *big.Int {
	if b.Sign() < 0 {
		a.Neg(a)
		b.Neg(b)
	}
	return a.Div(a, b)
}

// P1.2
func TestDiv(t *testing.T) {
	check(t, "Div", num.Div, []call{
		{7, 2, 3, api.OK},
		{-7, 2, -4, api.OK},
		{7, -2, -4, api.OK},
		{-7, -2, 3, api.OK},
		{6, -2, -3, api.OK},
		{-6, 2, -3, api.OK},
		{0, -3, 0, api.OK},
		{1, greatest, 0, api.OK},
		{-1, greatest, -1, api.OK},
		{1, least, -1, api.OK},
		{greatest, least, -1, api.OK},
		{greatest, -1, -greatest, api.OK},
		{least, 1, least, api.OK},
		{least, 2, -1 << 62, api.OK},
		{least, least, 1, api.OK},
		{6, 0, 0, api.ErrDivide},
		{0, 0, 0, api.ErrDivide},
		{least, 0, 0, api.ErrDivide},
		{least, -1, 0, api.ErrOverflow},
	})
	checkAll(t, "Div", num.Div, func(a, b int) bool { return b != 0 }, roundDown)
}

// P1.3
func TestPow(t *testing.T) {
	check(t, "Pow", num.Pow, []call{
		{7, 3, 343, api.OK},
		{-7, 3, -343, api.OK},
		{-7, 2, 49, api.OK},
		{5, 0, 1, api.OK},
		{0, 0, 1, api.OK},
		{least, 0, 1, api.OK},
		{least, 1, least, api.OK},
		{greatest, 1, greatest, api.OK},
		{0, 1, 0, api.OK},
		{2, 62, 1 << 62, api.OK},
		{-2, 63, least, api.OK},
		{-8, 21, least, api.OK},
		{3037000499, 2, 3037000499 * 3037000499, api.OK},
		{0, greatest, 0, api.OK},
		{1, greatest, 1, api.OK},
		{-1, greatest, -1, api.OK},
		{-1, greatest - 1, 1, api.OK},
		{2, 63, 0, api.ErrOverflow},
		{2, 64, 0, api.ErrOverflow},
		{-2, 64, 0, api.ErrOverflow},
		{3037000500, 2, 0, api.ErrOverflow},
		{least, 2, 0, api.ErrOverflow},
		{2, greatest, 0, api.ErrOverflow},
		{5, -1, 0, api.ErrArg},
		{0, -1, 0, api.ErrArg},
		{1, least, 0, api.ErrArg},
	})
	exponent := func(a, b int) bool { return b >= 0 && b <= 2000 }
	checkAll(t, "Pow", num.Pow, exponent, func(a, b *big.Int) *big.Int { return a.Exp(a, b, nil) })
}

// P1.4
func TestGcd(t *testing.T) {
	for _, c := range [][3]int{
		{12, 18, 6},
		{-4, 6, 2},
		{4, -6, 2},
		{-4, -6, 2},
		{0, -5, 5},
		{-5, 0, 5},
		{0, 0, 0},
		{1, 9, 1},
		{8, 9, 1},
		{greatest, greatest, greatest},
		{0, -greatest, greatest},
		{least, 6, 2},
		{1 << 62, least, 1 << 62},
		{least, greatest, 1},
		{least, least, 0},
		{least, 0, 0},
		{0, least, 0},
	} {
		if got := num.Gcd(c[0], c[1]); got != c[2] {
			t.Errorf("Gcd(%d, %d) = %d; want %d", c[0], c[1], got, c[2])
		}
	}
	// A 0 stands for 2^63 unless both numbers are 0.
	gcd := func(a, b int) (int, api.Errno) {
		divisor := num.Gcd(a, b)
		if divisor == 0 && (a != 0 || b != 0) {
			return 0, api.ErrOverflow
		}
		return divisor, api.OK
	}
	checkAll(t, "Gcd", gcd, anyPair, exactGcd)
}

func exactGcd(a, b *big.Int) *big.Int {
	return new(big.Int).GCD(nil, nil, a, b)
}

// P1.4
func TestLcm(t *testing.T) {
	check(t, "Lcm", num.Lcm, []call{
		{4, 6, 12, api.OK},
		{-4, 6, 12, api.OK},
		{4, -6, 12, api.OK},
		{-4, -6, 12, api.OK},
		{0, 0, 0, api.OK},
		{0, 7, 0, api.OK},
		{7, 0, 0, api.OK},
		{0, least, 0, api.OK},
		{least, 0, 0, api.OK},
		{greatest, -greatest, greatest, api.OK},
		{1 << 62, 1 << 61, 1 << 62, api.OK},
		{1, least, 0, api.ErrOverflow},
		{least, -1, 0, api.ErrOverflow},
		{least, least, 0, api.ErrOverflow},
		{1 << 62, 3, 0, api.ErrOverflow},
		{greatest, 2, 0, api.ErrOverflow},
	})
	checkAll(t, "Lcm", num.Lcm, anyPair, exactLcm)
}

func exactLcm(a, b *big.Int) *big.Int {
	if a.Sign() == 0 || b.Sign() == 0 {
		return new(big.Int)
	}
	product := new(big.Int).Mul(a, b)
	return product.Abs(product).Quo(product, exactGcd(a, b))
}

// P1.5
func TestFormatAndParse(t *testing.T) {
	for _, c := range []struct {
		n int
		s string
	}{
		{0, "0"},
		{7, "7"},
		{-1, "-1"},
		{-12, "-12"},
		{10, "10"},
		{-100, "-100"},
		{907, "907"},
		{1234567890, "1234567890"},
		{greatest, "9223372036854775807"},
		{least, "-9223372036854775808"},
	} {
		if got := num.Format(c.n); got != c.s {
			t.Errorf("Format(%d) = %q; want %q", c.n, got, c.s)
		}
		if got, err := num.Parse(c.s); got != c.n || err != api.OK {
			t.Errorf("Parse(%q) = %d, %d; want %d", c.s, got, err, c.n)
		}
	}
}

// P1.5
func TestParseRejectsOtherForms(t *testing.T) {
	for _, s := range []string{
		"", "-", "--1", "-0", "-00", "00", "012", "-012", "+1", "+0", "-+1", "+-1",
		" 1", "1 ", "1\n", "- 1", "1_0", "0x1", "0b1", "0o7", "1e3", "1.0", "1-", "1-2", "12a", "a", "/", ":",
		"1\x00", "\xff", "\u0661", "\uff11", "\u22121",
		"99999999999999999999x", "-99999999999999999999-", "09223372036854775808", "9223372036854775808 ",
	} {
		if got, err := num.Parse(s); got != 0 || err != api.ErrSyntax {
			t.Errorf("Parse(%q) = %d, %d; want ErrSyntax", s, got, err)
		}
	}
}

// P1.5
func TestParseRejectsGreatSizes(t *testing.T) {
	for _, s := range []string{
		"9223372036854775808", "-9223372036854775809", "9223372036854775810", "10000000000000000000",
		"18446744073709551616", "18446744073709551617", "-18446744073709551616", "99999999999999999999",
		"1" + strings.Repeat("0", 10000), "-" + strings.Repeat("9", 10000),
	} {
		if got, err := num.Parse(s); got != 0 || err != api.ErrOverflow {
			t.Errorf("Parse(%.30q) = %d, %d; want ErrOverflow", s, got, err)
		}
	}
}

// P1.6
func TestQuotientAndRemainder(t *testing.T) {
	for _, a := range samples() {
		for _, b := range samples() {
			q, err := num.Div(a, b)
			if err != api.OK {
				continue
			}
			// The remainder is an int even if q * b wraps around.
			r := a - q*b
			if r != 0 && (r < 0) != (b < 0) {
				t.Errorf("the remainder %d of %d / %d has the wrong sign", r, a, b)
			}
			if b > 0 && r >= b || b < 0 && r <= b {
				t.Errorf("the remainder %d of %d / %d is too great", r, a, b)
			}
		}
	}
}

// P1.7
func TestDivisorsAndMultiples(t *testing.T) {
	for _, a := range samples() {
		for _, b := range samples() {
			g := num.Gcd(a, b)
			if g != 0 && (a%g != 0 || b%g != 0) {
				t.Errorf("Gcd(%d, %d) = %d does not divide both", a, b, g)
			}
			l, err := num.Lcm(a, b)
			product, overflow := num.Mul(a, b)
			if err != api.OK || overflow != api.OK || product == least {
				continue
			}
			if g*l != max(product, -product) {
				t.Errorf("Gcd(%d, %d) * Lcm = %d * %d; the product is %d", a, b, g, l, product)
			}
		}
	}
}

// P1.7
func TestParseRestoresFormat(t *testing.T) {
	for _, n := range samples() {
		if got, err := num.Parse(num.Format(n)); got != n || err != api.OK {
			t.Errorf("Parse(Format(%d)) = %d, %d", n, got, err)
		}
	}
}
