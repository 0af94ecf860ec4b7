package rat_test

import (
	"math"
	"math/big"
	"regexp"
	"slices"
	"strings"
	"testing"

	"testbench/api"
	"testbench/rat"
)

const (
	least    = math.MinInt
	greatest = math.MaxInt
	prime    = 9223372036854775783 // the greatest one below 2^63
)

func of(n, d int) api.Rat {
	return api.Rat{Num: n, Den: d}
}

func whole(n int) api.Rat {
	return of(n, 1)
}

// integers has small numbers, those around powers of two, and great ones with few divisors and with many.
func integers() []int {
	list := []int{least, least + 1, least + 2, greatest, greatest - 1, greatest / 2, prime, -prime, greatest / 3, least / 3, 1<<61 - 1, 4052555153018976267, 7450580596923828125, 6469693230, -614889782588491410}
	for n := -7; n <= 7; n++ {
		list = append(list, n)
	}
	for _, shift := range []int{31, 32, 61, 62} {
		for d := -1; d <= 1; d++ {
			list = append(list, 1<<shift+d, -1<<shift-d)
		}
	}
	slices.Sort(list)
	return slices.Compact(list)
}

// numbers has the valid numbers whose parts are integers of that list.
func numbers() []api.Rat {
	var list []api.Rat
	for _, n := range integers() {
		for _, d := range integers() {
			if r := of(n, d); lowest(r) {
				list = append(list, r)
			}
		}
	}
	return list
}

// few has valid numbers that are few enough for all triples of them.
func few() []api.Rat {
	list := []api.Rat{of(1, 2), of(-1, 2), of(1, 3), of(2, 3), of(-5, 4), of(5, 6), of(1, 6), of(7, 1), of(-2, 1), of(1, greatest), of(-1, greatest), of(greatest, 2), of(least, 3), of(1<<62, 1), of(1, 1<<62), of(-3, 1<<62), of(1<<31, 3), of(3, 1<<31), of(prime, 1), of(1, prime), of(prime, greatest)}
	for _, n := range []int{least, -1, 0, 1, greatest} {
		list = append(list, whole(n))
	}
	return list
}

// invalid has numbers with a denominator that is not positive, or with a common divisor.
func invalid() []api.Rat {
	return []api.Rat{of(0, 0), of(1, 0), of(-1, 0), of(least, 0), of(greatest, 0), of(0, 2), of(0, -1), of(0, greatest), of(0, least), of(2, 4), of(-2, 4), of(3, 3), of(-3, 3), of(1, -2), of(-1, -2), of(1, -1), of(1, least), of(3, least), of(least, 2), of(least, least), of(least, -1), of(greatest, greatest), of(6, 9)}
}

// lowest reports by exact arithmetic whether r is valid.
func lowest(r api.Rat) bool {
	common := new(big.Int).GCD(nil, nil, new(big.Int).Abs(big.NewInt(int64(r.Num))), new(big.Int).Abs(big.NewInt(int64(r.Den))))
	return r.Den >= 1 && common.Cmp(big.NewInt(1)) == 0
}

func exactly(r api.Rat) *big.Rat {
	return big.NewRat(int64(r.Num), int64(r.Den))
}

func expected(q *big.Rat) (api.Rat, api.Errno) {
	if !q.Num().IsInt64() || !q.Denom().IsInt64() {
		return api.Rat{}, api.ErrOverflow
	}
	return of(int(q.Num().Int64()), int(q.Denom().Int64())), api.OK
}

type operation = func(a, b api.Rat) (api.Rat, api.Errno)

type call struct {
	a, b, want api.Rat
	err        api.Errno
}

func check(t *testing.T, name string, f operation, calls []call) {
	t.Helper()
	for _, c := range calls {
		if got, err := f(c.a, c.b); got != c.want || err != c.err {
			t.Errorf("%s(%v, %v) = %v, %d; want %v, %d", name, c.a, c.b, got, err, c.want, c.err)
		}
	}
}

// checkAll compares f with exact arithmetic for all pairs of the numbers that f accepts, and expects that some results fit and some do not.
func checkAll(t *testing.T, name string, f operation, accepts func(b api.Rat) bool, exact func(a, b *big.Rat) *big.Rat) {
	t.Helper()
	count := map[api.Errno]int{}
	all := numbers()
	for _, a := range all {
		for _, b := range all {
			if !accepts(b) {
				continue
			}
			want, wantErr := expected(exact(exactly(a), exactly(b)))
			count[wantErr]++
			if got, err := f(a, b); got != want || err != wantErr {
				t.Fatalf("%s(%v, %v) = %v, %d; want %v, %d", name, a, b, got, err, want, wantErr)
			}
		}
	}
	if count[api.OK] < 1000 || count[api.ErrOverflow] < 1000 {
		t.Errorf("%s: the pairs have too few of one kind: %v", name, count)
	}
}

func anyNumber(api.Rat) bool { return true }

func notZero(r api.Rat) bool { return r.Num != 0 }

// checkInvalid expects ErrArg if one of the numbers is not valid, whatever the other one is.
func checkInvalid(t *testing.T, name string, f operation) {
	t.Helper()
	for _, bad := range invalid() {
		for _, other := range slices.Concat(few(), invalid()) {
			check(t, name, f, []call{{bad, other, api.Rat{}, api.ErrArg}, {other, bad, api.Rat{}, api.ErrArg}})
		}
	}
}

// P5.1
func TestMake(t *testing.T) {
	for _, c := range []struct {
		num, den int
		want     api.Rat
		err      api.Errno
	}{
		{2, -4, of(-1, 2), api.OK},
		{-2, -4, of(1, 2), api.OK},
		{6, 3, whole(2), api.OK},
		{-5, 4, of(-5, 4), api.OK},
		{0, 7, whole(0), api.OK},
		{0, -7, whole(0), api.OK},
		{0, least, whole(0), api.OK},
		{least, 1, whole(least), api.OK},
		{least, least, whole(1), api.OK},
		{least, -2, whole(1 << 62), api.OK},
		{2, least, of(-1, 1<<62), api.OK},
		{-2, least, of(1, 1<<62), api.OK},
		{greatest, -greatest, whole(-1), api.OK},
		{1, -greatest, of(-1, greatest), api.OK},
		{least, greatest, of(least, greatest), api.OK},
		{least, -1, api.Rat{}, api.ErrOverflow},
		{least, -3, api.Rat{}, api.ErrOverflow},
		{1, least, api.Rat{}, api.ErrOverflow},
		{-1, least, api.Rat{}, api.ErrOverflow},
		{greatest, least, api.Rat{}, api.ErrOverflow},
		{1, 0, api.Rat{}, api.ErrDivide},
		{0, 0, api.Rat{}, api.ErrDivide},
		{least, 0, api.Rat{}, api.ErrDivide},
	} {
		if got, err := rat.Make(c.num, c.den); got != c.want || err != c.err {
			t.Errorf("Make(%d, %d) = %v, %d; want %v, %d", c.num, c.den, got, err, c.want, c.err)
		}
	}
	for _, n := range integers() {
		for _, d := range integers() {
			want, wantErr := api.Rat{}, api.ErrDivide
			if d != 0 {
				want, wantErr = expected(big.NewRat(int64(n), int64(d)))
			}
			if got, err := rat.Make(n, d); got != want || err != wantErr {
				t.Errorf("Make(%d, %d) = %v, %d; want %v, %d", n, d, got, err, want, wantErr)
			}
		}
	}
}

// P5.2
func TestValid(t *testing.T) {
	for _, r := range []api.Rat{of(0, 1), of(1, 1), of(-1, 1), of(1, 2), of(-5, 4), of(least, 1), of(least, greatest), of(least, 3), of(greatest, 1), of(1, greatest), of(prime, greatest)} {
		if !rat.Valid(r) {
			t.Errorf("Valid(%v) is false", r)
		}
	}
	for _, r := range invalid() {
		if rat.Valid(r) {
			t.Errorf("Valid(%v) is true", r)
		}
	}
	for n := -30; n <= 30; n++ {
		for d := -30; d <= 30; d++ {
			checkValid(t, of(n, d))
		}
	}
	for _, n := range integers() {
		for _, d := range integers() {
			checkValid(t, of(n, d))
		}
	}
}

func checkValid(t *testing.T, r api.Rat) {
	t.Helper()
	if got := rat.Valid(r); got != lowest(r) {
		t.Errorf("Valid(%v) = %v", r, got)
	}
}

// P5.3
func TestAdd(t *testing.T) {
	const third = 1<<61 - 1
	check(t, "Add", rat.Add, []call{
		{of(1, 2), of(1, 3), of(5, 6), api.OK},
		{of(1, 2), of(-1, 2), whole(0), api.OK},
		{of(1, 6), of(1, 10), of(4, 15), api.OK},
		{of(-5, 4), whole(0), of(-5, 4), api.OK},
		{whole(least), whole(greatest), whole(-1), api.OK},
		{whole(least), whole(least), api.Rat{}, api.ErrOverflow},
		{whole(least), whole(-1), api.Rat{}, api.ErrOverflow},
		{whole(greatest), whole(1), api.Rat{}, api.ErrOverflow},
		{whole(greatest), of(1, 2), api.Rat{}, api.ErrOverflow},
		{of(1, greatest), of(1, prime), api.Rat{}, api.ErrOverflow},
		{of(1, 1<<62), of(1, 3), api.Rat{}, api.ErrOverflow},
		// Only a number in between does not fit.
		{of(greatest, 2), of(greatest, 2), whole(greatest), api.OK},
		{of(least, 3), of(1<<62, 3), of(-1<<62, 3), api.OK},
		{of(1, 3*third), of(2, 3*third), of(1, third), api.OK},
		{of(least, greatest), of(greatest-1, greatest), of(-2, greatest), api.OK},
		{of(prime, greatest), of(-prime, greatest), whole(0), api.OK},
	})
	checkAll(t, "Add", rat.Add, anyNumber, func(a, b *big.Rat) *big.Rat { return a.Add(a, b) })
	checkInvalid(t, "Add", rat.Add)
}

// P5.3: the numerator over the common denominator does not fit into 64 bits, the result does.
func TestAddReduced(t *testing.T) {
	limit := new(big.Int).Lsh(big.NewInt(1), 64)
	found := 0
	for common := 3; common <= 64; common++ {
		for step := range 40 {
			a := of(greatest/3-7919*step, common*3)
			b := of(greatest/3-104729*step, common*5)
			if !lowest(a) || !lowest(b) {
				continue
			}
			top := new(big.Int).Add(new(big.Int).Mul(big.NewInt(int64(a.Num)), big.NewInt(5)), new(big.Int).Mul(big.NewInt(int64(b.Num)), big.NewInt(3)))
			want, wantErr := expected(new(big.Rat).Add(exactly(a), exactly(b)))
			if top.Cmp(limit) >= 0 && wantErr == api.OK {
				found++
			}
			check(t, "Add", rat.Add, []call{{a, b, want, wantErr}})
		}
	}
	if found == 0 {
		t.Error("no such sum has been tested")
	}
}

// P5.3
func TestSub(t *testing.T) {
	check(t, "Sub", rat.Sub, []call{
		{of(1, 2), of(1, 3), of(1, 6), api.OK},
		{of(1, 3), of(1, 2), of(-1, 6), api.OK},
		{whole(0), of(5, 4), of(-5, 4), api.OK},
		{whole(0), whole(0), whole(0), api.OK},
		{whole(-1), whole(least), whole(greatest), api.OK},
		{whole(least), whole(least), whole(0), api.OK},
		{whole(0), whole(greatest), whole(-greatest), api.OK},
		{of(least, greatest), of(least, greatest), whole(0), api.OK},
		{whole(0), whole(least), api.Rat{}, api.ErrOverflow},
		{whole(0), of(least, 3), api.Rat{}, api.ErrOverflow},
		{whole(least), whole(1), api.Rat{}, api.ErrOverflow},
		{whole(least), whole(greatest), api.Rat{}, api.ErrOverflow},
		{of(1, greatest), of(1, prime), api.Rat{}, api.ErrOverflow},
	})
	checkAll(t, "Sub", rat.Sub, anyNumber, func(a, b *big.Rat) *big.Rat { return a.Sub(a, b) })
	checkInvalid(t, "Sub", rat.Sub)
}

// P5.3
func TestMul(t *testing.T) {
	check(t, "Mul", rat.Mul, []call{
		{whole(1 << 62), of(1, 1<<62), whole(1), api.OK},
		{of(2, 3), of(3, 4), of(1, 2), api.OK},
		{of(-2, 3), of(-5, 7), of(10, 21), api.OK},
		{whole(0), of(-5, 7), whole(0), api.OK},
		{of(least, greatest), whole(0), whole(0), api.OK},
		{of(least, greatest), whole(greatest), whole(least), api.OK},
		{whole(-1 << 32), whole(1 << 31), whole(least), api.OK},
		{whole(1 << 32), whole(1 << 31), api.Rat{}, api.ErrOverflow},
		{whole(1 << 32), whole(1 << 32), api.Rat{}, api.ErrOverflow},
		{whole(least), whole(-1), api.Rat{}, api.ErrOverflow},
		{whole(least), of(-1, 2), whole(1 << 62), api.OK},
		{of(1, 1<<32), of(1, 1<<31), api.Rat{}, api.ErrOverflow},
		{of(1, 1<<32), of(1, 1<<32), api.Rat{}, api.ErrOverflow},
		{of(1, 1<<31), of(1, 1<<31), of(1, 1<<62), api.OK},
	})
	checkAll(t, "Mul", rat.Mul, anyNumber, func(a, b *big.Rat) *big.Rat { return a.Mul(a, b) })
	checkInvalid(t, "Mul", rat.Mul)
}

// P5.3
func TestDiv(t *testing.T) {
	check(t, "Div", rat.Div, []call{
		{whole(1), of(-1, 2), whole(-2), api.OK},
		{whole(1), whole(3), of(1, 3), api.OK},
		{whole(0), of(-1, 2), whole(0), api.OK},
		{whole(0), whole(least), whole(0), api.OK},
		{whole(least), whole(least), whole(1), api.OK},
		{whole(2), whole(least), of(-1, 1<<62), api.OK},
		{of(least, 3), of(least, 5), of(5, 3), api.OK},
		{whole(1), whole(least), api.Rat{}, api.ErrOverflow},
		{whole(least), whole(-1), api.Rat{}, api.ErrOverflow},
		{whole(greatest), of(1, 2), api.Rat{}, api.ErrOverflow},
		{whole(1), whole(0), api.Rat{}, api.ErrDivide},
		{whole(0), whole(0), api.Rat{}, api.ErrDivide},
		{of(least, greatest), whole(0), api.Rat{}, api.ErrDivide},
		{of(2, 4), whole(0), api.Rat{}, api.ErrArg},
		{whole(1), of(0, 2), api.Rat{}, api.ErrArg},
		{whole(1), api.Rat{}, api.Rat{}, api.ErrArg},
	})
	checkAll(t, "Div", rat.Div, notZero, func(a, b *big.Rat) *big.Rat { return a.Quo(a, b) })
	checkInvalid(t, "Div", rat.Div)
}

// P5.4
func TestCompare(t *testing.T) {
	for _, c := range []struct {
		a, b api.Rat
		want int
		err  api.Errno
	}{
		{of(1, 3), of(1, 2), -1, api.OK},
		{of(-1, 3), of(-1, 2), 1, api.OK},
		{of(-1, 3), of(1, 2), -1, api.OK},
		{of(5, 4), of(5, 4), 0, api.OK},
		{whole(0), whole(0), 0, api.OK},
		{whole(least), whole(greatest), -1, api.OK},
		{whole(greatest), whole(least), 1, api.OK},
		{of(greatest-1, greatest), of(greatest-2, greatest-1), 1, api.OK},
		{of(1, greatest), of(1, prime), -1, api.OK},
		{of(2, 4), of(2, 4), 0, api.ErrArg},
		{api.Rat{}, api.Rat{}, 0, api.ErrArg},
	} {
		checkCompare(t, c.a, c.b, c.want, c.err)
	}
	for _, bad := range invalid() {
		for _, other := range slices.Concat(few(), invalid()) {
			checkCompare(t, bad, other, 0, api.ErrArg)
			checkCompare(t, other, bad, 0, api.ErrArg)
		}
	}
	all := numbers()
	for _, a := range all {
		for _, b := range all {
			checkCompare(t, a, b, exactly(a).Cmp(exactly(b)), api.OK)
		}
	}
}

func checkCompare(t *testing.T, a, b api.Rat, want int, wantErr api.Errno) {
	t.Helper()
	if got, err := rat.Compare(a, b); got != want || err != wantErr {
		t.Fatalf("Compare(%v, %v) = %d, %d; want %d, %d", a, b, got, err, want, wantErr)
	}
}

// P5.5
func TestSum(t *testing.T) {
	half, bad := of(1, 2), of(2, 4)
	for _, c := range []struct {
		list []api.Rat
		want api.Rat
		err  api.Errno
	}{
		{nil, whole(0), api.OK},
		{[]api.Rat{}, whole(0), api.OK},
		{[]api.Rat{half}, half, api.OK},
		{[]api.Rat{half, of(1, 3), of(1, 6)}, whole(1), api.OK},
		{[]api.Rat{whole(least)}, whole(least), api.OK},
		{slices.Repeat([]api.Rat{of(-1, 7)}, 700), whole(-100), api.OK},
		{[]api.Rat{whole(greatest), whole(-1), whole(1)}, whole(greatest), api.OK},
		{[]api.Rat{whole(-1), whole(least), whole(1)}, api.Rat{}, api.ErrOverflow},
		{[]api.Rat{whole(greatest), whole(1), whole(-1)}, api.Rat{}, api.ErrOverflow},
		{[]api.Rat{of(1, greatest), of(1, prime), of(-1, prime)}, api.Rat{}, api.ErrOverflow},
		{[]api.Rat{bad}, api.Rat{}, api.ErrArg},
		{[]api.Rat{of(0, 0)}, api.Rat{}, api.ErrArg},
		{[]api.Rat{half, bad}, api.Rat{}, api.ErrArg},
		{[]api.Rat{bad, whole(greatest), whole(1)}, api.Rat{}, api.ErrArg},
		{[]api.Rat{whole(greatest), bad, whole(1)}, api.Rat{}, api.ErrArg},
		{[]api.Rat{whole(greatest), whole(1), bad}, api.Rat{}, api.ErrOverflow},
		{[]api.Rat{whole(greatest), half, bad}, api.Rat{}, api.ErrOverflow},
	} {
		if got, err := rat.Sum(c.list); got != c.want || err != c.err {
			t.Errorf("Sum(%v) = %v, %d; want %v, %d", c.list, got, err, c.want, c.err)
		}
	}
}

// P5.5: the error, or the result, is that of adding the numbers one after the other.
func TestSumAdds(t *testing.T) {
	list := append(few(), of(2, 4))
	for _, a := range list {
		for _, b := range list {
			for _, c := range list {
				want, wantErr := whole(0), api.OK
				for _, r := range []api.Rat{a, b, c} {
					if wantErr == api.OK {
						want, wantErr = rat.Add(want, r)
					}
				}
				if got, err := rat.Sum([]api.Rat{a, b, c}); got != want || err != wantErr {
					t.Errorf("Sum(%v, %v, %v) = %v, %d; want %v, %d", a, b, c, got, err, want, wantErr)
				}
			}
		}
	}
}

// P5.5, with rules 0.4 and 0.8
func TestSumKeepsList(t *testing.T) {
	list := []api.Rat{of(1, 2), of(1, 3), of(1, 6), of(7, 1), of(2, 4)}
	before := slices.Clone(list)
	if got, err := rat.Sum(list[:3]); got != whole(1) || err != api.OK {
		t.Errorf("Sum = %v, %d", got, err)
	}
	if !slices.Equal(list, before) {
		t.Errorf("Sum has changed its argument to %v", list)
	}
}

// P5.6
func TestFormat(t *testing.T) {
	for want, r := range map[string]api.Rat{
		"1/3":                  of(1, 3),
		"2":                    whole(2),
		"-5/4":                 of(-5, 4),
		"0":                    whole(0),
		"-1":                   whole(-1),
		"10/11":                of(10, 11),
		"-9223372036854775808": whole(least),
		"-9223372036854775808/9223372036854775807": of(least, greatest),
		"9223372036854775783/9223372036854775807":  of(prime, greatest),
	} {
		if got := rat.Format(r); got != want {
			t.Errorf("Format(%v) = %q; want %q", r, got, want)
		}
	}
	for _, r := range invalid() {
		if got := rat.Format(r); got != "" {
			t.Errorf("Format(%v) = %q; want none", r, got)
		}
	}
	for _, r := range numbers() {
		if got, want := rat.Format(r), exactly(r).RatString(); got != want {
			t.Errorf("Format(%v) = %q; want %q", r, got, want)
		}
	}
}

// P5.7
func TestParse(t *testing.T) {
	for s, want := range map[string]api.Rat{
		"1/3":                  of(1, 3),
		"-5/4":                 of(-5, 4),
		"0":                    whole(0),
		"-12":                  whole(-12),
		"10/11":                of(10, 11),
		"-9223372036854775808": whole(least),
		"9223372036854775807":  whole(greatest),
		"-9223372036854775808/9223372036854775807": of(least, greatest),
	} {
		checkParse(t, s, want, api.OK)
	}
	for _, s := range []string{
		"", "/", "1/", "/2", "-", "-/2", "-0", "-0/3", "+1", "+1/2", "01", "01/2", "1/02", "1/2/3", "1//2", "1/-2", "1/-0", "1/+2", " 1/2", "1/2 ", "1 /2", "1/ 2", "--1/2", "1.5", "1e3", "0x1", "1_0", "1\\2", "1:2", "1/2;", "a", "1/a", "\x00", "\xff", "١/٢", "1\uff0f2", "1\n",
		"2/4", "-2/4", "3/1", "-3/1", "0/1", "0/5", "0/0", "1/0", "-1/0", "7/7", "6/9", "9223372036854775807/9223372036854775807", "-9223372036854775808/2", "-9223372036854775808/1", "9223372036854775807/0",
	} {
		checkParse(t, s, api.Rat{}, api.ErrSyntax)
	}
}

func checkParse(t *testing.T, s string, want api.Rat, wantErr api.Errno) {
	t.Helper()
	if got, err := rat.Parse(s); got != want || err != wantErr {
		t.Errorf("Parse(%q) = %v, %d; want %v, %d", s, got, err, want, wantErr)
	}
}

// P5.7: a form that is wrong comes before an overflow, and this before a quotient that Format does not write.
func TestParseOverflow(t *testing.T) {
	long := strings.Repeat("9", 400)
	for _, s := range []string{
		"9223372036854775808", "-9223372036854775809", long, "-" + long,
		"9223372036854775808/3", "-9223372036854775809/2", "1/9223372036854775808", "-1/9223372036854775809", long + "/" + long,
		"9223372036854775808/0", "9223372036854775808/1", "9223372036854775808/2", "0/9223372036854775808", long + "/1", "2/" + long + "0",
	} {
		checkParse(t, s, api.Rat{}, api.ErrOverflow)
	}
	for _, s := range []string{
		long + "x", long + "/", "/" + long, long + "/x", "x/" + long, long + "/02", "02/" + long, long + "/-2", "1/-" + long, long + "/-" + long, "1/-9223372036854775808", long + "/2/3", "1/2/" + long, "0" + long, "1/0" + long, "-0/" + long, long + "/-0", "+" + long, long + " ",
	} {
		checkParse(t, s, api.Rat{}, api.ErrSyntax)
	}
}

// P5.7: the result is that of the definition for all short strings over the bytes of the forms.
func TestParseForms(t *testing.T) {
	form := regexp.MustCompile(`^(0|-?[1-9][0-9]*)(/(0|[1-9][0-9]*))?$`)
	valid := 0
	for _, s := range allStrings("-/0124", 6) {
		want, wantErr := api.Rat{}, api.ErrSyntax
		if q, ok := new(big.Rat).SetString(s); form.MatchString(s) && ok && q.RatString() == s {
			want, wantErr = expected(q)
			valid++
		}
		checkParse(t, s, want, wantErr)
	}
	if valid < 1000 {
		t.Errorf("only %d strings are forms of numbers", valid)
	}
}

// allStrings has the strings of the bytes of the alphabet, up to a length.
func allStrings(alphabet string, length int) []string {
	list, last := []string{""}, []string{""}
	for range length {
		var next []string
		for _, s := range last {
			for _, c := range alphabet {
				next = append(next, s+string(c))
			}
		}
		list, last = append(list, next...), next
	}
	return list
}

// fits returns the result, and whether the call has no error.
func fits(r api.Rat, err api.Errno) (api.Rat, bool) {
	return r, err == api.OK
}

// C5.1
func TestCommutative(t *testing.T) {
	for name, f := range map[string]operation{"Add": rat.Add, "Mul": rat.Mul} {
		all := numbers()
		for _, a := range all {
			for _, b := range all {
				want, wantErr := f(a, b)
				if got, err := f(b, a); got != want || err != wantErr {
					t.Fatalf("%s(%v, %v) = %v, %d, but the reverse is %v, %d", name, b, a, got, err, want, wantErr)
				}
			}
		}
	}
}

// C5.1
func TestAssociative(t *testing.T) {
	for name, f := range map[string]operation{"Add": rat.Add, "Mul": rat.Mul} {
		for _, a := range few() {
			for _, b := range few() {
				for _, c := range few() {
					ab, fit1 := fits(f(a, b))
					bc, fit2 := fits(f(b, c))
					left, fit3 := fits(f(ab, c))
					right, fit4 := fits(f(a, bc))
					if fit1 && fit2 && (fit3 != fit4 || left != right) {
						t.Errorf("%s of %v, %v and %v: %v, %v", name, a, b, c, left, right)
					}
				}
			}
		}
	}
}

// C5.1
func TestDistributive(t *testing.T) {
	for _, a := range few() {
		for _, b := range few() {
			for _, c := range few() {
				sum, fit1 := fits(rat.Add(b, c))
				ab, fit2 := fits(rat.Mul(a, b))
				ac, fit3 := fits(rat.Mul(a, c))
				left, fit4 := fits(rat.Mul(a, sum))
				right, fit5 := fits(rat.Add(ab, ac))
				if fit1 && fit2 && fit3 && (fit4 != fit5 || left != right) {
					t.Errorf("%v times the sum of %v and %v: %v, %v", a, b, c, left, right)
				}
			}
		}
	}
}

// C5.1
func TestUndone(t *testing.T) {
	all := numbers()
	for _, a := range all {
		for _, b := range all {
			if sum, ok := fits(rat.Add(a, b)); ok {
				check(t, "Sub", rat.Sub, []call{{sum, b, a, api.OK}})
			}
			if product, ok := fits(rat.Mul(a, b)); ok && notZero(b) {
				check(t, "Div", rat.Div, []call{{product, b, a, api.OK}})
			}
		}
	}
}

// C5.2
func TestParseFormat(t *testing.T) {
	for _, r := range numbers() {
		checkParse(t, rat.Format(r), r, api.OK)
	}
}

// C5.2
func TestCompareIsSign(t *testing.T) {
	all := numbers()
	for _, a := range all {
		for _, b := range all {
			sign, _ := rat.Compare(a, b)
			reverse, _ := rat.Compare(b, a)
			if reverse != -sign {
				t.Fatalf("Compare(%v, %v) = %d, but the reverse is %d", a, b, sign, reverse)
			}
			if difference, ok := fits(rat.Sub(a, b)); ok && sign != exactly(difference).Sign() {
				t.Fatalf("Compare(%v, %v) = %d, but the difference is %v", a, b, sign, difference)
			}
		}
	}
}
