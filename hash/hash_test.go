package hash_test

import (
	"fmt"
	"hash/crc32"
	"hash/fnv"
	"math"
	"math/big"
	"regexp"
	"slices"
	"strings"
	"testing"

	"testbench/api"
	"testbench/hash"
)

const greatest = math.MaxUint64

// texts has texts with zero bytes, with bytes above 127, valid as runes or not, with what looks like the end of a sealed string, and long ones.
func texts() []string {
	list := []string{"", "a", "b", "ab", "ba", "abc", "foobar", "123456789", "\x00", "\x00\x00", "\x80", "\xff", "\xff\xfe", "é", "日本", "line\nline", "#", "##", "#00000000", "a#00000000", "00000000", "deadbeef", "DEADBEEF", "a#b", "\xff\xff\xff\xff", "\u0663\u0663"}
	for c := range 256 {
		list = append(list, string([]byte{byte(c)}), string([]byte{'x', byte(c), 0}))
	}
	for _, size := range []int{7, 8, 9, 10, 15, 16, 17, 255, 256, 257, 5000} {
		list = append(list, strings.Repeat("x", size), strings.Repeat("\x00", size), strings.Repeat("é#", size))
	}
	return list
}

// numbers has small and great numbers, those with few bits that are 1 or 0, and some that follow a rule without a pattern.
func numbers() []uint64 {
	list := []uint64{0x9e3779b97f4a7c15, 0x0123456789abcdef, 0xfedcba9876543210, 0x00000000ffffffff, 0xaaaaaaaaaaaaaaaa, 0x5555555555555555}
	for n := range uint64(300) {
		list = append(list, n, greatest-n)
	}
	for i := range 64 {
		for k := range i {
			list = append(list, 1<<i|1<<k, ^(1<<i | 1<<k))
		}
		list = append(list, 1<<i, 1<<i-1, ^(1 << i))
	}
	for n := range uint64(1000) {
		list = append(list, n*n*n*0xd1342543de82ef95+1)
	}
	slices.Sort(list)
	return slices.Compact(list)
}

// allStrings has the strings of the bytes of the alphabet, up to a length.
func allStrings(alphabet string, length int) []string {
	list, last := []string{""}, []string{""}
	for range length {
		var next []string
		for _, s := range last {
			for _, c := range []byte(alphabet) {
				next = append(next, s+string([]byte{c}))
			}
		}
		list, last = append(list, next...), next
	}
	return list
}

// P4.1
func TestHash(t *testing.T) {
	for s, want := range map[string]uint64{"": 0xcbf29ce484222325, "a": 0xaf63dc4c8601ec8c, "b": 0xaf63df4c8601f1a5, "foobar": 0x85944171f73967e8, "\x00": 0xaf63bd4c8601b7df} {
		if got := hash.Hash(s); got != want {
			t.Errorf("Hash(%q) = %#x; want %#x", s, got, want)
		}
	}
	for _, s := range texts() {
		model := fnv.New64a()
		model.Write([]byte(s))
		if got, want := hash.Hash(s), model.Sum64(); got != want {
			t.Errorf("Hash(%q) = %#x; want %#x", s, got, want)
		}
	}
}

// exact has arithmetic modulo 2^64 by numbers without a bound.
type exact struct{ *big.Int }

func exactly(x uint64) exact {
	return exact{new(big.Int).SetUint64(x)}
}

func (a exact) plus(b exact) exact {
	return exact{new(big.Int).Add(a.Int, b.Int)}
}

func (a exact) times(b exact) exact {
	return exact{new(big.Int).Mul(a.Int, b.Int)}
}

func (a exact) wrapped() uint64 {
	return new(big.Int).Mod(a.Int, new(big.Int).Lsh(big.NewInt(1), 64)).Uint64()
}

// modelFinish has the five steps one by one.
func modelFinish(x uint64) uint64 {
	shifted := func(x uint64, n uint) uint64 {
		return x ^ new(big.Int).Rsh(exactly(x).Int, n).Uint64()
	}
	x = shifted(x, 30)
	x = exactly(x).times(exactly(0xbf58476d1ce4e5b9)).wrapped()
	x = shifted(x, 27)
	x = exactly(x).times(exactly(0x94d049bb133111eb)).wrapped()
	return shifted(x, 31)
}

func modelMix(a, b uint64) uint64 {
	next := exactly(b).plus(exactly(1))
	return modelFinish(exactly(a).plus(next.times(exactly(0x9e3779b97f4a7c15))).wrapped())
}

// P4.2: the results for the multiples of Mix's constant are the published ones of the generator SplitMix64 with the seed 0.
func TestFinish(t *testing.T) {
	for x, want := range map[uint64]uint64{
		0:                  0,
		0x9e3779b97f4a7c15: 0xe220a8397b1dcdaf,
		0x3c6ef372fe94f82a: 0x6e789e6aa1b965f4,
		0xdaa66d2c7ddf743f: 0x06c45d188009454f,
	} {
		if got := hash.Finish(x); got != want {
			t.Errorf("Finish(%#x) = %#x; want %#x", x, got, want)
		}
	}
	for _, x := range numbers() {
		if got, want := hash.Finish(x), modelFinish(x); got != want {
			t.Errorf("Finish(%#x) = %#x; want %#x", x, got, want)
		}
	}
}

// pairs has pairs of numbers, those at the borders among them.
func pairs() [][2]uint64 {
	var list [][2]uint64
	borders := []uint64{0, 1, 2, 1 << 63, greatest - 1, greatest}
	all := numbers()
	for i, x := range all {
		for _, border := range borders {
			list = append(list, [2]uint64{x, border}, [2]uint64{border, x})
		}
		list = append(list, [2]uint64{x, all[len(all)-1-i]})
	}
	return list
}

// P4.2
func TestMix(t *testing.T) {
	for _, c := range []struct{ a, b, want uint64 }{
		{0, 0, 0xe220a8397b1dcdaf},
		{0, 1, 0x6e789e6aa1b965f4},
		{0, 2, 0x06c45d188009454f},
		{0x9e3779b97f4a7c15, 0, 0x6e789e6aa1b965f4},
		{0, greatest, 0},
		{0x9e3779b97f4a7c15, greatest, 0xe220a8397b1dcdaf},
		{greatest, greatest, 0xb4d055fcf2cbbd7b},
	} {
		if got := hash.Mix(c.a, c.b); got != c.want {
			t.Errorf("Mix(%#x, %#x) = %#x; want %#x", c.a, c.b, got, c.want)
		}
	}
	for _, p := range pairs() {
		if got, want := hash.Mix(p[0], p[1]), modelMix(p[0], p[1]); got != want {
			t.Fatalf("Mix(%#x, %#x) = %#x; want %#x", p[0], p[1], got, want)
		}
	}
}

func checkUnhex(t *testing.T, s string, want uint64, wantErr api.Errno) {
	t.Helper()
	if got, err := hash.Unhex(s); got != want || err != wantErr {
		t.Errorf("Unhex(%q) = %#x, %d; want %#x, %d", s, got, err, want, wantErr)
	}
}

// P4.3
func TestHex(t *testing.T) {
	for x, want := range map[uint64]string{
		0:                  "0000000000000000",
		255:                "00000000000000ff",
		0x0123456789abcdef: "0123456789abcdef",
		1 << 63:            "8000000000000000",
		greatest:           "ffffffffffffffff",
	} {
		if got := hash.Hex(x); got != want {
			t.Errorf("Hex(%d) = %q; want %q", x, got, want)
		}
		checkUnhex(t, want, x, api.OK)
	}
	for _, x := range numbers() {
		want := fmt.Sprintf("%016x", x)
		if got := hash.Hex(x); got != want {
			t.Errorf("Hex(%d) = %q; want %q", x, got, want)
		}
		checkUnhex(t, want, x, api.OK)
	}
}

// P4.3: the forms of other lengths, of other bytes, and those that packages of numbers accept.
func TestUnhexErrors(t *testing.T) {
	valid := "0123456789abcdef"
	for _, s := range []string{
		"", "0", "f", "ff", "000000000000000", "00000000000000000", "123456789abcdef", valid + "0", "0" + valid, valid + valid, valid + "\n", valid + "\x00",
		"0123456789ABCDEF", "0123456789abcdeF", "A123456789abcdef", "0x00000000000000", "0x23456789abcdef", "+123456789abcdef", "-123456789abcdef", " 123456789abcdef", "0123456789abcde ", "0123_4567_89ab_c", "0123456789abcde\n", "0123456789abcdé", "\u0663\u0663\u0663\u0663\u0663\u0663\u0663\u0663", strings.Repeat("é", 16),
	} {
		checkUnhex(t, s, 0, api.ErrSyntax)
	}
	for size := range 40 {
		if size != 16 {
			checkUnhex(t, strings.Repeat("0", size), 0, api.ErrSyntax)
			checkUnhex(t, strings.Repeat("f", size), 0, api.ErrSyntax)
		}
	}
}

// P4.3: each byte at each place.
func TestUnhexBytes(t *testing.T) {
	form := regexp.MustCompile("^[0-9a-f]{16}$")
	for at := range 16 {
		for c := range 256 {
			changed := []byte("0123456789abcdef")
			changed[at] = byte(c)
			s := string(changed)
			if !form.MatchString(s) {
				checkUnhex(t, s, 0, api.ErrSyntax)
				continue
			}
			if x, err := hash.Unhex(s); err != api.OK || hash.Hex(x) != s {
				t.Errorf("Unhex(%q) = %#x, %d", s, x, err)
			}
		}
	}
}

// P4.4
func TestCRC(t *testing.T) {
	for s, want := range map[string]uint32{"": 0, "123456789": 0xcbf43926, "a": 0xe8b7be43, "\x00": 0xd202ef8d, "\xff\xff\xff\xff": 0xffffffff, "The quick brown fox jumps over the lazy dog": 0x414fa339} {
		if got := hash.CRC(s); got != want {
			t.Errorf("CRC(%q) = %#x; want %#x", s, got, want)
		}
	}
	for _, s := range texts() {
		if got, want := hash.CRC(s), crc32.ChecksumIEEE([]byte(s)); got != want {
			t.Errorf("CRC(%q) = %#x; want %#x", s, got, want)
		}
	}
}

// modelSeal is Seal by its definition.
func modelSeal(s string) string {
	return fmt.Sprintf("%s#%08x", s, crc32.ChecksumIEEE([]byte(s)))
}

// withEarlyZero has texts whose checksums begin with the digit 0.
func withEarlyZero() []string {
	var list []string
	for n := 0; len(list) < 20; n++ {
		if s := fmt.Sprint(n); crc32.ChecksumIEEE([]byte(s)) < 1<<28 {
			list = append(list, s)
		}
	}
	return list
}

// P4.5
func TestSeal(t *testing.T) {
	for s, want := range map[string]string{"": "#00000000", "123456789": "123456789#cbf43926", "a": "a#e8b7be43", "\xff\xff\xff\xff": "\xff\xff\xff\xff#ffffffff"} {
		if got := hash.Seal(s); got != want {
			t.Errorf("Seal(%q) = %q; want %q", s, got, want)
		}
	}
	for _, s := range append(texts(), withEarlyZero()...) {
		if got, want := hash.Seal(s), modelSeal(s); got != want {
			t.Errorf("Seal(%q) = %q; want %q", s, got, want)
		}
	}
}

func checkOpen(t *testing.T, s, want string, wantErr api.Errno) {
	t.Helper()
	if got, err := hash.Open(s); got != want || err != wantErr {
		t.Errorf("Open(%q) = %q, %d; want %q, %d", s, got, err, want, wantErr)
	}
}

// P4.5
func TestOpen(t *testing.T) {
	checkOpen(t, "#00000000", "", api.OK)
	checkOpen(t, "123456789#cbf43926", "123456789", api.OK)
	checkOpen(t, "a#e8b7be43", "a", api.OK)
	checkOpen(t, "\xff\xff\xff\xff#ffffffff", "\xff\xff\xff\xff", api.OK)
}

// P4.5: where several errors apply, the first one counts.
func TestOpenErrors(t *testing.T) {
	for _, s := range []string{"", "#", "0", "00000000", "#0000000", "########", "abcdefgh", "éééé", "\x00"} {
		checkOpen(t, s, "", api.ErrTruncated)
	}
	for _, s := range []string{
		"000000000", "a00000000", " 00000000", "\x0000000000", "123456789:cbf43926", "123456789cbf43926", "123456789##cbf4392", "123456789#0cbf43926", "123456789#cbf4392", "#00000000#",
		"#0000000g", "#G0000000", "#0000000/", "#0000000:", "#0000000`", "#0000000 ", "#+0000000", "#-0000000", "#0x000000", "#000_0000", "#000000\xc3\xa9", "#0000000\n",
		"123456789#CBF43926", "123456789#cbf4392g", "123456789#cBf43926", "123456789#xbf43926", "éééé00000000",
		"x########", "#########", "xx0000000", "a#e8b7be43\n", "123456789#cbf43926 ",
	} {
		checkOpen(t, s, "", api.ErrSyntax)
	}
	for _, s := range []string{"#00000001", "#ffffffff", "#10000000", "#80000000", "a#00000000", "a#e8b7be42", "b#e8b7be43", "A#e8b7be43", "aa#e8b7be43", "a##e8b7be43", "#00000000#00000000", "\x00#00000000", "a#43beb7e8", "123456789#cbf43927", "x123456789#cbf43926"} {
		checkOpen(t, s, "", api.ErrCorrupt)
	}
}

// openError returns the error of Open by its definition.
func openError(s string) api.Errno {
	if len(s) < 9 {
		return api.ErrTruncated
	}
	tail := regexp.MustCompile("^#[0-9a-f]{8}$")
	if end := len(s) - 9; !tail.MatchString(s[end:]) {
		return api.ErrSyntax
	} else if modelSeal(s[:end]) != s {
		return api.ErrCorrupt
	}
	return api.OK
}

// P4.5: all beginnings, ends and parts of sealed strings.
func TestOpenParts(t *testing.T) {
	for _, s := range []string{hash.Seal(""), hash.Seal("a#b"), hash.Seal("123456789"), hash.Seal(hash.Seal("")), hash.Seal(hash.Seal("é\xff"))} {
		for start := range len(s) + 1 {
			for end := start; end <= len(s); end++ {
				part := s[start:end]
				if _, err := hash.Open(part); err != openError(part) {
					t.Errorf("Open(%q) has the error %d; want %d", part, err, openError(part))
				}
			}
		}
	}
}

// inverse returns the number whose product with x, which is odd, is 1: each step doubles the number of its lowest bits that are right.
func inverse(x uint64) uint64 {
	y := x
	for range 6 {
		y *= 2 - x*y
	}
	return y
}

// unshifted returns the number that has y as its exclusive or with itself, shifted to the right by n.
func unshifted(y uint64, n int) uint64 {
	x := y
	for range 64 / n {
		x = y ^ x>>n
	}
	return x
}

// unfinished returns the number whose result of Finish is y.
func unfinished(y uint64) uint64 {
	y = unshifted(y, 31) * inverse(0x94d049bb133111eb)
	y = unshifted(y, 27) * inverse(0xbf58476d1ce4e5b9)
	return unshifted(y, 30)
}

// P4.6: Finish has an inverse function on either side.
func TestFinishIsBijection(t *testing.T) {
	results := map[uint64]bool{}
	for _, x := range numbers() {
		if got := unfinished(hash.Finish(x)); got != x {
			t.Errorf("Finish has the same result for %#x and %#x", x, got)
		}
		if got := hash.Finish(unfinished(x)); got != x {
			t.Errorf("%#x is no result of Finish, but %#x", x, got)
		}
		results[hash.Finish(x)] = true
	}
	if len(results) != len(numbers()) {
		t.Errorf("%d numbers have %d results", len(numbers()), len(results))
	}
}

// P4.6: so has Mix, with either of its arguments fixed.
func TestMixIsBijection(t *testing.T) {
	const step = 0x9e3779b97f4a7c15
	for _, p := range pairs() {
		a, b := p[0], p[1]
		mixed := unfinished(hash.Mix(a, b))
		if got := mixed - step*(b+1); got != a {
			t.Fatalf("Mix has the same result for %#x and %#x with %#x", a, got, b)
		}
		if got := (mixed-a)*inverse(step) - 1; got != b {
			t.Fatalf("Mix has the same result for %#x with %#x and %#x", a, b, got)
		}
		first, second := unfinished(b)-step*(a+1), (unfinished(b)-a)*inverse(step)-1
		if hash.Mix(first, a) != b || hash.Mix(a, second) != b {
			t.Fatalf("Mix with %#x does not have the result %#x", a, b)
		}
	}
}

// P4.7
func TestOpenInvertsSeal(t *testing.T) {
	for _, s := range slices.Concat(texts(), withEarlyZero(), allStrings("#0f\xff", 4)) {
		checkOpen(t, hash.Seal(s), s, api.OK)
		checkOpen(t, hash.Seal(hash.Seal(s)), hash.Seal(s), api.OK)
	}
}

// P4.7: of the strings with all forms of an end, and of some checksums, only results of Seal are accepted.
func TestOpenAcceptsOnlySealed(t *testing.T) {
	accepted := 0
	check := func(s string) {
		got, err := hash.Open(s)
		if err == api.OK {
			accepted++
		}
		if err == api.OK && hash.Seal(got) != s {
			t.Fatalf("Open(%q) = %q, whose sealed form is %q", s, got, hash.Seal(got))
		}
	}
	for _, s := range texts()[:20] {
		sealed := hash.Seal(s)
		sum := sealed[len(s)+1:]
		for _, mark := range []string{"", "#", "##", ":", " ", "\x00"} {
			for _, end := range []string{sum, strings.ToUpper(sum), "0" + sum, "00000000" + sum, sum + "0", "0x" + sum, " " + sum, sum + " ", sum[:7], sum[1:], strings.TrimLeft(sum, "0")} {
				check(s + mark + end)
			}
		}
	}
	for _, s := range allStrings("#0a", 11) {
		check(s)
	}
	if accepted == 0 {
		t.Error("nothing was accepted")
	}
}

// P4.7
func TestOpenOfChangedByte(t *testing.T) {
	for _, s := range []string{"", "a", "#", "a#00000000", "123456789", "é\xff\x00", strings.Repeat("x", 100), withEarlyZero()[0]} {
		sealed := hash.Seal(s)
		for at := range len(sealed) {
			for c := range 256 {
				if byte(c) == sealed[at] {
					continue
				}
				changed := sealed[:at] + string([]byte{byte(c)}) + sealed[at+1:]
				if got, err := hash.Open(changed); got != "" || err == api.OK || err != openError(changed) {
					t.Errorf("Open(%q) = %q, %d; want the error %d", changed, got, err, openError(changed))
				}
			}
		}
	}
}

// P4.1, P4.3 to P4.5: long strings are hashed, and opened, byte by byte.
func TestLongStrings(t *testing.T) {
	s := strings.Repeat("\x00\xff#0a", 1<<18)
	model := fnv.New64a()
	model.Write([]byte(s))
	if hash.Hash(s) != model.Sum64() || hash.CRC(s) != crc32.ChecksumIEEE([]byte(s)) {
		t.Errorf("the hash is %#x, the checksum %#x", hash.Hash(s), hash.CRC(s))
	}
	if got, err := hash.Open(modelSeal(s)); got != s || err != api.OK || hash.Seal(s) != modelSeal(s) {
		t.Errorf("a sealed string of %d bytes has %d bytes and the error %d when it is opened", len(s), len(got), err)
	}
	checkUnhex(t, s, 0, api.ErrSyntax)
}
