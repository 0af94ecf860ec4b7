package pack_test

import (
	"fmt"
	"math"
	"math/big"
	"regexp"
	"slices"
	"strconv"
	"strings"
	"testing"

	"testbench/api"
	"testbench/pack"
)

const (
	least    = math.MinInt
	greatest = math.MaxInt
)

// texts has texts that look like parts of packed forms, texts of more bytes than runes, and some of several digits of length.
func texts() []string {
	list := []string{"", "a", "ab", "0", "1", "7", "-", "-1", ":", ";", "0:", "1:a", "2;1:a0:", "12", " ", "\x00", "\xff\xfe", "é", "日本", "line\nline"}
	for _, size := range []int{9, 10, 11, 99, 100, 101, 1000} {
		list = append(list, strings.Repeat("x", size), strings.Repeat("1:", size))
	}
	return list
}

func numbers() []int {
	list := []int{least, least + 1, greatest - 1, greatest}
	for n := -120; n <= 120; n++ {
		list = append(list, n)
	}
	for power := 1000; power <= greatest/10; power *= 10 {
		list = append(list, power-1, power, power+1, -power-1, -power, -power+1)
	}
	return list
}

func lists() [][]string {
	list := [][]string{nil, {}, {""}, {"", ""}, {"a", ""}, {"", "a"}, {"1:a", "1:a"}, {"2;1:a0:", "2;"}, texts(), slices.Repeat([]string{"ab"}, 12)}
	for _, s := range texts() {
		list = append(list, []string{s})
	}
	return list
}

// allStrings has the strings of the bytes of the alphabet, up to a length.
func allStrings(alphabet string, length int) []string {
	list, last := []string{""}, []string{""}
	for range length {
		var next []string
		for _, s := range last {
			for _, c := range alphabet {
				next = append(next, s+string(c))
			}
		}
		list, last = append(list, next...), next
	}
	return list
}

// P3.1
func TestText(t *testing.T) {
	for s, want := range map[string]string{"": "0:", "ab": "2:ab", "é": "2:é", "1:a": "3:1:a", "\x00\xff": "2:\x00\xff", "0123456789": "10:0123456789"} {
		if got := pack.Text(s); got != want {
			t.Errorf("Text(%q) = %q; want %q", s, got, want)
		}
	}
	for _, s := range texts() {
		if got, want := pack.Text(s), fmt.Sprintf("%d:%s", len(s), s); got != want {
			t.Errorf("Text(%q) = %q; want %q", s, got, want)
		}
	}
}

// P3.1
func TestNumber(t *testing.T) {
	for n, want := range map[int]string{0: "0;", 7: "7;", -5: "-5;", least: "-9223372036854775808;", greatest: "9223372036854775807;"} {
		if got := pack.Number(n); got != want {
			t.Errorf("Number(%d) = %q; want %q", n, got, want)
		}
	}
	for _, n := range numbers() {
		if got, want := pack.Number(n), fmt.Sprintf("%d;", n); got != want {
			t.Errorf("Number(%d) = %q; want %q", n, got, want)
		}
	}
}

// P3.1
func TestList(t *testing.T) {
	for _, c := range []struct {
		list []string
		want string
	}{
		{nil, "0;"},
		{[]string{}, "0;"},
		{[]string{""}, "1;0:"},
		{[]string{"a", ""}, "2;1:a0:"},
		{[]string{"1;1:a", "é"}, "2;5:1;1:a2:é"},
	} {
		if got := pack.List(c.list); got != c.want {
			t.Errorf("List(%q) = %q; want %q", c.list, got, c.want)
		}
	}
	for _, l := range lists() {
		want := fmt.Sprintf("%d;", len(l))
		for _, s := range l {
			want += fmt.Sprintf("%d:%s", len(s), s)
		}
		if got := pack.List(l); got != want {
			t.Errorf("List(%q) = %q; want %q", l, got, want)
		}
	}
}

// P3.1: the elements behind the length of a slice are neither used nor changed (0.8), and those before it are not changed (0.4).
func TestListKeepsItsArgument(t *testing.T) {
	array := []string{"a", "b", "c"}
	if got := pack.List(array[:2]); got != "2;1:a1:b" {
		t.Errorf("List = %q", got)
	}
	if !slices.Equal(array, []string{"a", "b", "c"}) {
		t.Errorf("List has changed its argument to %q", array)
	}
}

func checkTakeText(t *testing.T, s string, at int, want string, wantEnd int, wantErr api.Errno) {
	t.Helper()
	if got, end, err := pack.TakeText(s, at); got != want || end != wantEnd || err != wantErr {
		t.Errorf("TakeText(%q, %d) = %q, %d, %d; want %q, %d, %d", s, at, got, end, err, want, wantEnd, wantErr)
	}
}

func checkTakeNumber(t *testing.T, s string, at, want, wantEnd int, wantErr api.Errno) {
	t.Helper()
	if got, end, err := pack.TakeNumber(s, at); got != want || end != wantEnd || err != wantErr {
		t.Errorf("TakeNumber(%q, %d) = %d, %d, %d; want %d, %d, %d", s, at, got, end, err, want, wantEnd, wantErr)
	}
}

func checkTakeList(t *testing.T, s string, at, most int, want []string, wantEnd int, wantErr api.Errno) {
	t.Helper()
	if got, end, err := pack.TakeList(s, at, most); !slices.Equal(got, want) || end != wantEnd || err != wantErr {
		t.Errorf("TakeList(%q, %d, %d) = %q, %d, %d; want %q, %d, %d", s, at, most, got, end, err, want, wantEnd, wantErr)
	}
}

// P3.2
func TestTakeText(t *testing.T) {
	checkTakeText(t, "0:", 0, "", 2, api.OK)
	checkTakeText(t, "2:ab", 0, "ab", 4, api.OK)
	checkTakeText(t, "x2:abc", 1, "ab", 5, api.OK)
	checkTakeText(t, "12:ab", 1, "ab", 5, api.OK)
	checkTakeText(t, "10:0123456789:", 0, "0123456789", 13, api.OK)
	checkTakeText(t, "10:0123456789:", 1, "", 3, api.OK)
	checkTakeText(t, "2:é", 0, "é", 4, api.OK)
	checkTakeText(t, "1:é", 0, "\xc3", 3, api.OK)
}

// P3.2
func TestTakeTextErrors(t *testing.T) {
	for _, at := range []int{-1, least, 5, 6, greatest} {
		checkTakeText(t, "2:ab", at, "", 0, api.ErrArg)
	}
	checkTakeText(t, "", 1, "", 0, api.ErrArg)
	for _, s := range []string{"", "0", "3", "012", "00", "9223372036854775808", "3:", "3:ab", "1:", "9223372036854775807:", "9223372036854775807:abc", "9223372036854775800:abc"} {
		checkTakeText(t, s, 0, "", 0, api.ErrTruncated)
		checkTakeText(t, "2:ab"+s, 4, "", 0, api.ErrTruncated)
	}
	for _, s := range []string{"02:ab", "00:", "01:a", ":", ":a", "-1:a", "-0:", "+1:a", " 1:a", "1 :a", "2;ab", "a", "-", "2a", "0x1:a", "1.0:a", "٣:abc", "09223372036854775808:", "9223372036854775808;", "9223372036854775808x"} {
		checkTakeText(t, s, 0, "", 0, api.ErrSyntax)
		checkTakeText(t, ":"+s, 1, "", 0, api.ErrSyntax)
	}
	for _, s := range []string{"9223372036854775808:", "10000000000000000000:a", "18446744073709551617:a", strings.Repeat("9", 1000) + ":"} {
		checkTakeText(t, s, 0, "", 0, api.ErrOverflow)
	}
}

// P3.3
func TestTakeNumber(t *testing.T) {
	checkTakeNumber(t, "0;", 0, 0, 2, api.OK)
	checkTakeNumber(t, "-5;", 0, -5, 3, api.OK)
	checkTakeNumber(t, "-5;", 1, 5, 3, api.OK)
	checkTakeNumber(t, "--5;", 1, -5, 4, api.OK)
	checkTakeNumber(t, "10;20;", 3, 20, 6, api.OK)
	checkTakeNumber(t, "10;20;", 1, 0, 3, api.OK)
	checkTakeNumber(t, "9223372036854775807;", 0, greatest, 20, api.OK)
	checkTakeNumber(t, "-9223372036854775808;", 0, least, 21, api.OK)
}

// P3.3
func TestTakeNumberErrors(t *testing.T) {
	for _, at := range []int{-1, least, 4, greatest} {
		checkTakeNumber(t, "12;", at, 0, 0, api.ErrArg)
	}
	checkTakeNumber(t, "", 1, 0, 0, api.ErrArg)
	for _, s := range []string{"", "-", "0", "-0", "00", "-012", "7", "-7", "9223372036854775808"} {
		checkTakeNumber(t, s, 0, 0, 0, api.ErrTruncated)
		checkTakeNumber(t, "-0;"+s, 3, 0, 0, api.ErrTruncated)
	}
	for _, s := range []string{";", "-;", "-0;", "00;", "01;", "-01;", "-00;", "--5;", "--", "+5;", " 5;", "5 ;", "5-;", "5-", "5:", "-5:", "a", "5a", "1_0;", "٣;", "09223372036854775808;", "9223372036854775808:", "-9223372036854775809x"} {
		checkTakeNumber(t, s, 0, 0, 0, api.ErrSyntax)
		checkTakeNumber(t, "7;"+s, 2, 0, 0, api.ErrSyntax)
	}
	for _, s := range []string{"9223372036854775808;", "-9223372036854775809;", "10000000000000000000;", "18446744073709551617;", "-" + strings.Repeat("9", 1000) + ";"} {
		checkTakeNumber(t, s, 0, 0, 0, api.ErrOverflow)
	}
}

// P3.4
func TestTakeList(t *testing.T) {
	checkTakeList(t, "0;", 0, 0, nil, 2, api.OK)
	checkTakeList(t, "0;1:a", 0, greatest, nil, 2, api.OK)
	checkTakeList(t, "1;0:", 0, 1, []string{""}, 4, api.OK)
	checkTakeList(t, "2;1:a0:", 0, 2, []string{"a", ""}, 7, api.OK)
	checkTakeList(t, "2;1:a0:", 0, 3, []string{"a", ""}, 7, api.OK)
	checkTakeList(t, "21;1:a0:", 1, 1, []string{"a"}, 6, api.OK)
	checkTakeList(t, "x2;5:1;1:a2:é;", 1, 2, []string{"1;1:a", "é"}, 14, api.OK)
}

// P3.4
func TestTakeListErrors(t *testing.T) {
	for _, at := range []int{-1, least, 5, greatest} {
		checkTakeList(t, "1;0:", at, 1, nil, 0, api.ErrArg)
	}
	checkTakeList(t, "1;0:", 0, -1, nil, 0, api.ErrArg)
	checkTakeList(t, "0;", 0, least, nil, 0, api.ErrArg)
	checkTakeList(t, "-", 0, -1, nil, 0, api.ErrArg)
	for _, c := range []struct {
		s    string
		most int
		err  api.Errno
	}{
		{"", 9, api.ErrTruncated},
		{"-", 9, api.ErrTruncated},
		{"2", 1, api.ErrTruncated},
		{"2:", 9, api.ErrSyntax},
		{"02;", 1, api.ErrSyntax},
		{"-0;", 9, api.ErrSyntax},
		{"9223372036854775808;", 9, api.ErrOverflow},
		{"-9223372036854775809;", 9, api.ErrOverflow},
		{"-1;", 9, api.ErrSyntax},
		{"-1;", 0, api.ErrSyntax},
		{"-9223372036854775808;0:", 9, api.ErrSyntax},
		{"1;", 0, api.ErrLimit},
		{"2;1:a", 1, api.ErrLimit},
		{"2;02:ab", 1, api.ErrLimit},
		{"9223372036854775807;", greatest - 1, api.ErrLimit},
		{"9223372036854775807;", greatest, api.ErrTruncated},
		{"9223372036854775807;1:a1:b", greatest, api.ErrTruncated},
		{"1;", 9, api.ErrTruncated},
		{"2;1:a", 2, api.ErrTruncated},
		{"2;2:a", 2, api.ErrTruncated},
		{"2;1:a1:", 2, api.ErrTruncated},
		{"3;1:a01:b9223372036854775808:", 3, api.ErrSyntax},
		{"3;1:a9223372036854775808:01:b", 3, api.ErrOverflow},
		{"3;1:a9:b01:c", 3, api.ErrTruncated},
		{"1;1;", 9, api.ErrSyntax},
	} {
		checkTakeList(t, c.s, 0, c.most, nil, 0, c.err)
		checkTakeList(t, "1;0:"+c.s, 4, c.most, nil, 0, c.err)
	}
}

// P3.4: a list is new memory (0.4).
func TestTakeListIsNew(t *testing.T) {
	s := "2;1:a1:b"
	first, _, _ := pack.TakeList(s, 0, 2)
	second, _, _ := pack.TakeList(s, 0, 2)
	first[0] = "changed"
	if !slices.Equal(second, []string{"a", "b"}) || s != "2;1:a1:b" {
		t.Errorf("a change of one result has changed another one, to %q, or the argument, to %q", second, s)
	}
}

// numeralError returns the error, if any, of a numeral of one form that begins rest, with the mark behind it.
func numeralError(rest, numeral string, mark byte) api.Errno {
	found := regexp.MustCompile("^" + numeral).FindString(rest)
	behind := rest[len(found):]
	n, isNumber := new(big.Int).SetString(found, 10)
	switch {
	case behind == "":
		return api.ErrTruncated
	case !isNumber || n.String() != found || behind[0] != mark:
		return api.ErrSyntax
	case !n.IsInt64():
		return api.ErrOverflow
	}
	return api.OK
}

// P3.2, P3.3: the errors by their definition, for all short strings.
func TestErrorsOfAllStrings(t *testing.T) {
	for _, s := range allStrings("012-:;a", 5) {
		for at := range len(s) + 1 {
			rest := s[at:]
			if _, _, err := pack.TakeNumber(s, at); err != numeralError(rest, "-?[0-9]*", ';') {
				t.Fatalf("TakeNumber(%q, %d) has the error %d", s, at, err)
			}
			want := numeralError(rest, "[0-9]*", ':')
			size, text, _ := strings.Cut(rest, ":")
			if n, _ := strconv.Atoi(size); want == api.OK && n > len(text) {
				want = api.ErrTruncated
			}
			if _, _, err := pack.TakeText(s, at); err != want {
				t.Fatalf("TakeText(%q, %d) has the error %d; want %d", s, at, err, want)
			}
		}
	}
}

// P3.5
func TestInverse(t *testing.T) {
	for _, before := range []string{"", "1", "-", "0", ":", ";", "7;", "3:", "a", "é", "2;1:a"} {
		for _, behind := range []string{"", "0", "9", "-", ":", ";", "1:a", "a", "é"} {
			at := len(before)
			for _, s := range texts() {
				form := before + pack.Text(s)
				checkTakeText(t, form+behind, at, s, len(form), api.OK)
			}
			for _, n := range numbers() {
				form := before + pack.Number(n)
				checkTakeNumber(t, form+behind, at, n, len(form), api.OK)
			}
			for _, l := range lists() {
				form := before + pack.List(l)
				checkTakeList(t, form+behind, at, len(l), l, len(form), api.OK)
			}
		}
	}
}

// P3.6
func TestCanonical(t *testing.T) {
	taken := 0
	check := func(s string, at, end int, form string) {
		taken++
		if end < at || end > len(s) || s[at:end] != form {
			t.Fatalf("what was taken from %q, from %d to %d, has the form %q", s, at, end, form)
		}
	}
	for _, s := range allStrings("012-:;", 6) {
		for at := range len(s) + 1 {
			if text, end, err := pack.TakeText(s, at); err == api.OK {
				check(s, at, end, pack.Text(text))
			}
			if n, end, err := pack.TakeNumber(s, at); err == api.OK {
				check(s, at, end, pack.Number(n))
			}
			if list, end, err := pack.TakeList(s, at, 2); err == api.OK {
				check(s, at, end, pack.List(list))
			}
		}
	}
	if taken == 0 {
		t.Error("nothing was taken")
	}
}

// checkPrefixes fails if one of the forms is a proper beginning of another one.
func checkPrefixes(t *testing.T, forms []string) {
	t.Helper()
	slices.Sort(forms)
	forms = slices.Compact(forms)
	// Between a beginning and what it begins, the order has only strings that it begins, too.
	for i, form := range forms[1:] {
		if strings.HasPrefix(form, forms[i]) {
			t.Errorf("%q begins %q", forms[i], form)
		}
	}
}

// P3.7
func TestPrefixes(t *testing.T) {
	var ofTexts, ofNumbers, ofLists []string
	for _, s := range texts() {
		form := pack.Text(s)
		ofTexts = append(ofTexts, form)
		for end := range len(form) {
			checkTakeText(t, form[:end], 0, "", 0, api.ErrTruncated)
		}
	}
	for _, n := range numbers() {
		form := pack.Number(n)
		ofNumbers = append(ofNumbers, form)
		for end := range len(form) {
			checkTakeNumber(t, form[:end], 0, 0, 0, api.ErrTruncated)
		}
	}
	for _, l := range lists() {
		form := pack.List(l)
		ofLists = append(ofLists, form)
		for end := range len(form) {
			checkTakeList(t, form[:end], 0, len(l), nil, 0, api.ErrTruncated)
		}
	}
	checkPrefixes(t, ofTexts)
	checkPrefixes(t, ofNumbers)
	checkPrefixes(t, ofLists)
}
