package lexer_test

import (
	"fmt"
	"math/rand"
	"regexp"
	"slices"
	"strconv"
	"strings"
	"testing"

	"testbench/api"
	"testbench/lexer"
)

const (
	keywords = "class extends rand randc state constraint soft dist if else each in solve before inside property seq and or not set hold plain repeat"
	marks    = "( ) { } [ ] , ; : .. ? = == != < <= > >= << >> + - * & | ^ ~ ! && || -> => := :/ ## @"
	greatest = 1<<31 - 1 // the greatest number of a token
	// wordBytes are the bytes that a name goes on with.
	wordBytes = "abcdefghijklmnopqrstuvwxyzABCDEFGHIJKLMNOPQRSTUVWXYZ0123456789_"
)

var (
	modelSkip   = regexp.MustCompile(`^(?:[ \t\n]|//[^\n]*)`)
	modelWord   = regexp.MustCompile(`^[a-z][a-zA-Z0-9_]*`)
	modelDigits = regexp.MustCompile(`^[0-9]+`)
	modelBehind = regexp.MustCompile(`^[a-zA-Z_]`)
	modelMark   = regexp.MustCompile("^(?:" + markPattern() + ")")
)

// markPattern tries the longer marks first.
func markPattern() string {
	list := strings.Fields(marks)
	slices.SortStableFunc(list, func(a, b string) int { return len(b) - len(a) })
	for i, mark := range list {
		list[i] = regexp.QuoteMeta(mark)
	}
	return strings.Join(list, "|")
}

// modelTokens follows the definitions of the chapter with regular expressions.
func modelTokens(s string) ([]api.Token, int, api.Errno) {
	if len(s) > 16384 {
		return nil, 0, api.ErrLimit
	}
	var list []api.Token
	for at := 0; at < len(s); {
		if skipped := modelSkip.FindString(s[at:]); skipped != "" {
			at += len(skipped)
			continue
		}
		line := 1 + strings.Count(s[:at], "\n")
		token, err := modelFirst(s[at:])
		if err != api.OK {
			return nil, line, err
		}
		token.Line = line
		list = append(list, token)
		at += len(token.Text)
	}
	return list, 0, api.OK
}

func modelFirst(s string) (api.Token, api.Errno) {
	if text := modelWord.FindString(s); text != "" {
		switch {
		case len(text) > 16:
			return api.Token{}, api.ErrLimit
		case slices.Contains(strings.Fields(keywords), text):
			return keyword(text, 0), api.OK
		}
		return name(text, 0), api.OK
	}
	if text := modelDigits.FindString(s); text != "" {
		if text[0] == '0' && len(text) > 1 || modelBehind.MatchString(s[len(text):]) {
			return api.Token{}, api.ErrSyntax
		}
		n, err := strconv.ParseUint(text, 10, 31)
		if err != nil {
			return api.Token{}, api.ErrOverflow
		}
		return number(int(n), 0), api.OK
	}
	if text := modelMark.FindString(s); text != "" {
		return mark(text, 0), api.OK
	}
	return api.Token{}, api.ErrSyntax
}

func name(text string, line int) api.Token {
	return api.Token{Kind: api.TkName, Text: text, Line: line}
}

func keyword(text string, line int) api.Token {
	return api.Token{Kind: api.TkWord, Text: text, Line: line}
}

func number(n, line int) api.Token {
	return api.Token{Kind: api.TkNumber, N: n, Text: fmt.Sprint(n), Line: line}
}

func mark(text string, line int) api.Token {
	return api.Token{Kind: api.TkMark, Text: text, Line: line}
}

func checkTokens(t *testing.T, s string, want []api.Token, wantLine int, wantErr api.Errno) {
	t.Helper()
	got, line, err := lexer.Tokens(s)
	if !slices.Equal(got, want) || line != wantLine || err != wantErr {
		t.Errorf("Tokens(%.60q) = %v, %d, %d; want %v, %d, %d", s, got, line, err, want, wantLine, wantErr)
	}
}

func checkModel(t *testing.T, s string) {
	t.Helper()
	want, line, err := modelTokens(s)
	checkTokens(t, s, want, line, err)
}

// checkMarks compares the tokens of a source, all of them marks of line 1, with the fields of want.
func checkMarks(t *testing.T, s, want string) {
	t.Helper()
	var list []api.Token
	for _, text := range strings.Fields(want) {
		list = append(list, mark(text, 1))
	}
	checkTokens(t, s, list, 0, api.OK)
}

// P7.1
func TestTokens(t *testing.T) {
	for _, c := range []struct {
		source string
		want   []api.Token
	}{
		{"", nil},
		{" \t\n\n ", nil},
		{"x1<=20//y", []api.Token{name("x1", 1), mark("<=", 1), number(20, 1)}},
		{"a..b:/3", []api.Token{name("a", 1), mark("..", 1), name("b", 1), mark(":/", 1), number(3, 1)}},
		{"|=>", []api.Token{mark("|", 1), mark("=>", 1)}},
		{"rand a:2;", []api.Token{keyword("rand", 1), name("a", 1), mark(":", 1), number(2, 1), mark(";", 1)}},
		{"\tclass\n\n p {\n}\n", []api.Token{keyword("class", 1), name("p", 3), mark("{", 3), mark("}", 4)}},
		{"a\nb", []api.Token{name("a", 1), name("b", 2)}},
		{"1..2", []api.Token{number(1, 1), mark("..", 1), number(2, 1)}},
		{"a[0]", []api.Token{name("a", 1), mark("[", 1), number(0, 1), mark("]", 1)}},
		{"-0 - 1", []api.Token{mark("-", 1), number(0, 1), mark("-", 1), number(1, 1)}},
		{"zZ_09 z", []api.Token{name("zZ_09", 1), name("z", 1)}},
		{"if in insid ifs", []api.Token{keyword("if", 1), keyword("in", 1), name("insid", 1), name("ifs", 1)}},
		{"a 1\tb", []api.Token{name("a", 1), number(1, 1), name("b", 1)}},
	} {
		checkTokens(t, c.source, c.want, 0, api.OK)
	}
}

// P7.1: comments begin where a token could begin, and end before a line feed or with the source.
func TestTokensSkipComments(t *testing.T) {
	for _, c := range []struct {
		source string
		want   []api.Token
	}{
		{"//", nil},
		{"///", nil},
		{"//\n", nil},
		{"// a\n// b\n", nil},
		{"a//b\nc", []api.Token{name("a", 1), name("c", 2)}},
		{"1//2\n3", []api.Token{number(1, 1), number(3, 2)}},
		{"<//=\n=", []api.Token{mark("<", 1), mark("=", 2)}},
		{"////a // b\n\n c//", []api.Token{name("c", 3)}},
		{"// A . 007 99999999999 /\n@", []api.Token{mark("@", 2)}},
		{"//\r\x00\xff\xc3é\u2028日本\n@", []api.Token{mark("@", 2)}},
		// A rune that is cut off by the line feed does not take it along.
		{"//\xe6\x97\na//\xf0\nb", []api.Token{name("a", 2), name("b", 3)}},
		{":///a\nb", []api.Token{mark(":/", 1), name("b", 2)}},
		{": //a", []api.Token{mark(":", 1)}},
	} {
		checkTokens(t, c.source, c.want, 0, api.OK)
	}
}

// P7.1: the longest mark is taken.
func TestTokensTakeLongestMarks(t *testing.T) {
	for source, want := range map[string]string{
		"(){}[],;?+*^~@": "( ) { } [ ] , ; ? + * ^ ~ @",
		"===":            "== =",
		"====":           "== ==",
		"==>":            "== >",
		"=>=":            "=> =",
		"=<=":            "= <=",
		"<=>":            "<= >",
		"<<=":            "<< =",
		"<<<":            "<< <",
		">>=":            ">> =",
		">>>":            ">> >",
		"<>":             "< >",
		"!==":            "!= =",
		"!!=":            "! !=",
		"&&&":            "&& &",
		"|||":            "|| |",
		"||->":           "|| ->",
		"|->":            "| ->",
		"-->":            "- ->",
		"->>":            "-> >",
		"::=":            ": :=",
		":==":            ":= =",
		":=>":            ":= >",
		":..":            ": ..",
		"....":           ".. ..",
		"####":           "## ##",
		"= =":            "= =",
		"< <":            "< <",
		":\n":            ":",
	} {
		checkMarks(t, source, want)
	}
}

// P7.1: the error of the first token that has one, and the line of this token.
func TestTokensErrors(t *testing.T) {
	for _, c := range []struct {
		source string
		line   int
		err    api.Errno
	}{
		{"007", 1, api.ErrSyntax},
		{"00", 1, api.ErrSyntax},
		{"12a", 1, api.ErrSyntax},
		{"12A", 1, api.ErrSyntax},
		{"0z", 1, api.ErrSyntax},
		{"1Z", 1, api.ErrSyntax},
		{"12_", 1, api.ErrSyntax},
		{"0_1", 1, api.ErrSyntax},
		{"1in", 1, api.ErrSyntax},
		{"A", 1, api.ErrSyntax},
		{"Za", 1, api.ErrSyntax},
		{"_a", 1, api.ErrSyntax},
		{".", 1, api.ErrSyntax},
		{"...", 1, api.ErrSyntax},
		{". .", 1, api.ErrSyntax},
		{"1.2", 1, api.ErrSyntax},
		{"#", 1, api.ErrSyntax},
		{"###", 1, api.ErrSyntax},
		{"/", 1, api.ErrSyntax},
		{"a/b", 1, api.ErrSyntax},
		{"a/ /b", 1, api.ErrSyntax},
		{"://a", 1, api.ErrSyntax},
		{"/* a */", 1, api.ErrSyntax},
		{"a%b", 1, api.ErrSyntax},
		{"a\r\n", 1, api.ErrSyntax},
		{"a\vb", 1, api.ErrSyntax},
		{"a\fb", 1, api.ErrSyntax},
		{"\x00", 1, api.ErrSyntax},
		{"\xff", 1, api.ErrSyntax},
		{"é", 1, api.ErrSyntax},
		{"aé", 1, api.ErrSyntax},
		{"1\u0661", 1, api.ErrSyntax},
		{"\ufeffa", 1, api.ErrSyntax},
		{"a\u00a0b", 1, api.ErrSyntax},
		{"a\u2028b", 1, api.ErrSyntax},
		{"2147483648", 1, api.ErrOverflow},
		{"4294967296", 1, api.ErrOverflow},
		{"9223372036854775807", 1, api.ErrOverflow},
		{"9223372036854775808", 1, api.ErrOverflow},
		{"18446744073709551616", 1, api.ErrOverflow},
		{strings.Repeat("9", 1000), 1, api.ErrOverflow},
		{strings.Repeat("9", 1000) + "a", 1, api.ErrSyntax},
		{"02147483648", 1, api.ErrSyntax},
		{"2147483648_", 1, api.ErrSyntax},
		{strings.Repeat("0", 1000), 1, api.ErrSyntax},
		{strings.Repeat("a", 17), 1, api.ErrLimit},
		{"a123456789_BCDEFG", 1, api.ErrLimit},
		{"constraint1234567", 1, api.ErrLimit},
		{strings.Repeat("a", 17) + "\n?", 1, api.ErrLimit},
		{"\n\n.", 3, api.ErrSyntax},
		{"a // b\n c //\n 2147483648 . \n\n", 3, api.ErrOverflow},
		{"\n. 2147483648", 2, api.ErrSyntax},
		{"2147483648\n.\n" + strings.Repeat("a", 17), 1, api.ErrOverflow},
		{"\n" + strings.Repeat("a", 17) + " 00", 2, api.ErrLimit},
		{"a\nb\nc\n1x", 4, api.ErrSyntax},
	} {
		checkTokens(t, c.source, nil, c.line, c.err)
	}
}

// P7.1: the borders of numbers and of the length of names.
func TestTokensAtLimits(t *testing.T) {
	long := "a123456789_BCDEF"
	checkTokens(t, "2147483647", []api.Token{number(greatest, 1)}, 0, api.OK)
	checkTokens(t, "0", []api.Token{number(0, 1)}, 0, api.OK)
	checkTokens(t, long, []api.Token{name(long, 1)}, 0, api.OK)
	checkTokens(t, long+"("+long, []api.Token{name(long, 1), mark("(", 1), name(long, 1)}, 0, api.OK)
}

// P7.1: a source that is too long has no other error.
func TestTokensOfLongSources(t *testing.T) {
	for _, part := range []string{"a ", "\n\n", "//", "(;", "..", "é"} {
		source := strings.Repeat(part, api.MaxSource/2)
		checkModel(t, source)
		checkTokens(t, source+" ", nil, 0, api.ErrLimit)
	}
	source := strings.Repeat("\n", api.MaxSource-1)
	checkTokens(t, source+"a", []api.Token{name("a", api.MaxSource)}, 0, api.OK)
	checkTokens(t, source+".", nil, api.MaxSource, api.ErrSyntax)
	checkTokens(t, source+".a", nil, 0, api.ErrLimit)
	checkTokens(t, strings.Repeat("a", api.MaxSource), nil, 1, api.ErrLimit)
	checkTokens(t, strings.Repeat("a", api.MaxSource+1), nil, 0, api.ErrLimit)
	checkTokens(t, strings.Repeat("0 ", api.MaxSource), nil, 0, api.ErrLimit)
	checkTokens(t, "//"+strings.Repeat("x", api.MaxSource-2), nil, 0, api.OK)
	checkTokens(t, "//"+strings.Repeat("x", api.MaxSource-1), nil, 0, api.ErrLimit)
}

// P7.1: every keyword and every mark is a token, also directly beside others.
func TestTokensOfAllWords(t *testing.T) {
	for _, text := range strings.Fields(keywords) {
		checkTokens(t, text, []api.Token{keyword(text, 1)}, 0, api.OK)
		checkTokens(t, "("+text+")", []api.Token{mark("(", 1), keyword(text, 1), mark(")", 1)}, 0, api.OK)
		checkTokens(t, text+"1", []api.Token{name(text+"1", 1)}, 0, api.OK)
	}
	for _, text := range strings.Fields(marks) {
		checkMarks(t, text, text)
		checkTokens(t, "a"+text+"1", []api.Token{name("a", 1), mark(text, 1), number(1, 1)}, 0, api.OK)
	}
}

// allStrings has the strings of the parts, up to a number of them.
func allStrings(parts []string, length int) []string {
	list, last := []string{""}, []string{""}
	for range length {
		var next []string
		for _, s := range last {
			for _, part := range parts {
				next = append(next, s+part)
			}
		}
		list, last = append(list, next...), next
	}
	return list
}

func allBytes() []string {
	list := make([]string, 256)
	for i := range list {
		list[i] = string([]byte{byte(i)})
	}
	return list
}

// P7.1
func TestTokensOfShortSources(t *testing.T) {
	for _, s := range allStrings(allBytes(), 2) {
		checkModel(t, s)
	}
	for _, s := range allStrings(strings.Split("aZ_01 \n/:=<>.#&|-!", ""), 4) {
		checkModel(t, s)
	}
}

// pieces are those of random sources, most of them without an error.
func pieces() []string {
	list := strings.Fields(keywords + " " + marks + " a b x1 y_2 zZ a123456789_BCDEF 0 1 7 10 65535 2147483647")
	list = append(list, " ", " ", " ", "\t", "\n", "\n", "\n", "  \n\t", "//", "// a\n", "//é.\n\n")
	return list
}

func randomSource(r *rand.Rand, pieces []string) string {
	var source strings.Builder
	for range r.Intn(12) {
		source.WriteString(pieces[r.Intn(len(pieces))])
		if r.Intn(2) == 0 {
			source.WriteString(" ")
		}
	}
	return source.String()
}

// P7.1
func TestTokensOfRandomSources(t *testing.T) {
	r := rand.New(rand.NewSource(1))
	right := pieces()
	wrong := append(pieces(), "A", "_", ".", "/", "#", "$", "00", "1a", "2147483648", "a123456789_BCDEFG", "é", "\xff", "\r")
	for range 20000 {
		checkModel(t, randomSource(r, right))
		checkModel(t, randomSource(r, wrong))
	}
}

// P7.1: the tokens of a source are new memory for every call.
func TestTokensAreNew(t *testing.T) {
	list, _, _ := lexer.Tokens("a 1 ;")
	for i := range list {
		list[i] = api.Token{}
	}
	checkTokens(t, "a 1 ;", []api.Token{name("a", 1), number(1, 1), mark(";", 1)}, 0, api.OK)
}

func checkJoin(t *testing.T, l []api.Token, want string, wantErr api.Errno) {
	t.Helper()
	if got, err := lexer.Join(l); got != want || err != wantErr {
		t.Errorf("Join(%v) = %q, %d; want %q, %d", l, got, err, want, wantErr)
	}
}

// P7.2
func TestJoin(t *testing.T) {
	for _, c := range []struct {
		list []api.Token
		want string
	}{
		{nil, ""},
		{[]api.Token{}, ""},
		{[]api.Token{name("a", 1)}, "a"},
		{[]api.Token{number(0, 1), number(greatest, 1)}, "0 2147483647"},
		{[]api.Token{keyword("rand", 1), name("a", 1), mark(":", 1), number(2, 1), mark(";", 1)}, "rand a : 2 ;"},
		{[]api.Token{mark(":", 1), mark(":/", 1), mark("=", 1), mark("==", 1)}, ": :/ = =="},
		// The lines do not matter.
		{[]api.Token{name("a", 0), name("b", -7), number(1, 9), mark("<", 3), keyword("if", greatest)}, "a b 1 < if"},
	} {
		checkJoin(t, c.list, c.want, api.OK)
	}
	for _, text := range strings.Fields(keywords) {
		checkJoin(t, []api.Token{keyword(text, 1)}, text, api.OK)
	}
	for _, text := range strings.Fields(marks) {
		checkJoin(t, []api.Token{mark(text, 1)}, text, api.OK)
	}
}

// P7.2: Join has no limit of its own.
func TestJoinOfLongLists(t *testing.T) {
	list := slices.Repeat([]api.Token{name("a123456789_BCDEF", 1)}, api.MaxSource)
	want := strings.Repeat(" a123456789_BCDEF", api.MaxSource)[1:]
	if got, err := lexer.Join(list); got != want || err != api.OK {
		t.Errorf("Join of %d tokens has %d bytes, %d", len(list), len(got), err)
	}
}

func invalidTokens() []api.Token {
	list := []api.Token{{}, {Line: 1}}
	texts := []string{"", " ", "a", "rand", "0", "7", ";", ":/", "//", "\n"}
	for _, text := range texts {
		for _, kind := range []int{-1, 0, 5, 6, 1 << 40} {
			list = append(list, api.Token{Kind: kind, Text: text})
		}
	}
	for _, text := range []string{"", " ", " a", "a ", "a b", "a\n", "a//", "A", "_a", "1", "1a", "rand", "repeat", "a-", "-a", ";", "é", "aé", "a\x00", "a123456789_BCDEFG"} {
		list = append(list, name(text, 1))
	}
	for _, text := range []string{"", " ", " if", "if ", "if in", "if//", "If", "IF", "iff", "i", "a", "x1", "1", ";", "constraints"} {
		list = append(list, keyword(text, 1))
	}
	for _, text := range []string{"", " ", " ;", "; ", ";;", "; ;", "===", ".", "/", "//", ":/ ", "://", "#", "$", "a", "if", "0", "é", "\n"} {
		list = append(list, mark(text, 1))
	}
	for _, n := range []int{-1, -7, greatest + 1, 1 << 32, 1<<63 - 1, -1 << 63} {
		list = append(list, number(n, 1))
	}
	for n, texts := range map[int][]string{
		0:  {"", "00", "-0", "+0", "a", "1", " ", ";", "0;", "0a"},
		1:  {"", "0", "01", "1 ", " 1", "+1", "1a", "1_", "1 1", "1;", "1//", "2", "10", "0x1", "١"},
		-1: {"1", "0"},
		12: {"1", "2", "012", "12.", "1 2"},
	} {
		for _, text := range texts {
			list = append(list, api.Token{Kind: api.TkNumber, N: n, Text: text, Line: 1})
		}
	}
	for _, n := range []int{1, -1, greatest} {
		list = append(list,
			api.Token{Kind: api.TkName, N: n, Text: "a"},
			api.Token{Kind: api.TkWord, N: n, Text: "if"},
			api.Token{Kind: api.TkMark, N: n, Text: ";"})
	}
	return list
}

// P7.2
func TestJoinRejectsInvalidTokens(t *testing.T) {
	for _, bad := range invalidTokens() {
		checkJoin(t, []api.Token{bad}, "", api.ErrArg)
		checkJoin(t, []api.Token{bad, name("a", 1)}, "", api.ErrArg)
		checkJoin(t, []api.Token{name("a", 1), number(1, 1), bad}, "", api.ErrArg)
	}
}

// P7.2: every text that is no name, keyword, numeral or mark is rejected with every kind.
func TestJoinOfShortTexts(t *testing.T) {
	for _, text := range allStrings(allBytes(), 2) {
		token, err := modelFirst(text)
		n, _ := strconv.Atoi(text)
		for kind := range 6 {
			l := []api.Token{{Kind: kind, N: n, Text: text}}
			if err == api.OK && token.Text == text && token.Kind == kind {
				checkJoin(t, l, text, api.OK)
			} else {
				checkJoin(t, l, "", api.ErrArg)
			}
		}
	}
}

// P7.2: the elements behind the length of a slice are neither used nor changed (0.8), and those before it are not changed (0.4).
func TestJoinKeepsItsArgument(t *testing.T) {
	array := []api.Token{name("a", 5), number(1, 6), {}}
	checkJoin(t, array[:2], "a 1", api.OK)
	checkJoin(t, array, "", api.ErrArg)
	if !slices.Equal(array, []api.Token{name("a", 5), number(1, 6), {}}) {
		t.Errorf("Join has changed its argument to %v", array)
	}
}

func checkClass(t *testing.T, s string, isName, isKeyword, isMark bool) {
	t.Helper()
	for _, c := range []struct {
		call      string
		got, want bool
	}{
		{"IsName", lexer.IsName(s), isName},
		{"IsKeyword", lexer.IsKeyword(s), isKeyword},
		{"IsMark", lexer.IsMark(s), isMark},
	} {
		if c.got != c.want {
			t.Errorf("%s(%q) = %t; want %t", c.call, s, c.got, c.want)
		}
	}
}

// P7.3
func TestClassesOfNames(t *testing.T) {
	for _, s := range []string{"a", "z", "x1", "aZ", "a_", "a__9", "abcdefghijklmnop", "a_23456789012345", "zzzzzzzzzzzzzzzZ", "clas", "classes", "iF", "oR", "randC", "in_"} {
		checkClass(t, s, true, false, false)
	}
	for _, c := range wordBytes {
		checkClass(t, "a"+string(c), true, false, false)
		checkClass(t, "q"+strings.Repeat(string(c), 15), true, false, false)
		checkClass(t, "q"+strings.Repeat(string(c), 16), false, false, false)
	}
}

// P7.3
func TestClassesOfKeywordsAndMarks(t *testing.T) {
	for _, s := range strings.Fields(keywords) {
		checkClass(t, s, false, true, false)
		checkClass(t, s+" ", false, false, false)
		checkClass(t, " "+s, false, false, false)
		checkClass(t, strings.ToUpper(s), false, false, false)
		checkClass(t, s+"x", true, false, false)
		checkClass(t, "x"+s, true, false, false)
	}
	for _, s := range strings.Fields(marks) {
		checkClass(t, s, false, false, true)
		for _, c := range allBytes() {
			isMark := slices.Contains(strings.Fields(marks), s+c)
			checkClass(t, s+c, false, false, isMark)
			checkClass(t, s+s+c, false, false, false)
		}
	}
}

// P7.3
func TestClassesOfOtherStrings(t *testing.T) {
	for _, s := range []string{
		"", " ", "a ", " a", "a b", "a\n", "A", "Ab", "_", "_a", "0", "1", "12", "1a", "a.b", "a-b", "a[0]", "a//",
		"é", "aé", "\xff", "a\xff", "a\x00", "ａ", "///", "//", "/", ".", "...", "#", "%", "\\", "$", "'", "\"", "`",
		"abcdefghijklmnopq", strings.Repeat("a", 100000), "==>", "|->", "<->", "( )", "class extends", "\x00", "\t", "\n",
	} {
		checkClass(t, s, false, false, false)
	}
}

// P7.3
func TestClassesOfShortStrings(t *testing.T) {
	check := func(s string) {
		isKeyword := slices.Contains(strings.Fields(keywords), s)
		isMark := slices.Contains(strings.Fields(marks), s)
		isName := modelWord.FindString(s) == s && s != "" && !isKeyword
		checkClass(t, s, isName, isKeyword, isMark)
	}
	for _, s := range allStrings(allBytes(), 2) {
		check(s)
	}
	for _, s := range allStrings(strings.Split("()[],;:.?=!<>+-&|/#@ a", ""), 3) {
		check(s)
	}
	for _, s := range allStrings(strings.Split("abcdefghijklmnopqrstuvwxyz", ""), 3) {
		check(s)
	}
}

// moved returns the tokens with lines that are greater by the number.
func moved(l []api.Token, lines int) []api.Token {
	list := slices.Clone(l)
	for i := range list {
		list[i].Line += lines
	}
	return list
}

// P7.4
func TestTokensOfJoinedTokens(t *testing.T) {
	r := rand.New(rand.NewSource(2))
	for range 20000 {
		list, _, err := modelTokens(randomSource(r, pieces()))
		if err != api.OK {
			continue
		}
		for i := range list {
			list[i].Line = r.Intn(5) - 2
		}
		joined, err := lexer.Join(list)
		if err != api.OK {
			t.Fatalf("Join(%v) = %d", list, err)
		}
		for i := range list {
			list[i].Line = 1
		}
		checkTokens(t, joined, list, 0, api.OK)
	}
}

// P7.4: all pairs of tokens are told apart.
func TestTokensOfJoinedPairs(t *testing.T) {
	var list []api.Token
	for _, text := range strings.Fields(keywords + " " + marks + " a a1 zZ_ 0 1 10 2147483647") {
		token, _ := modelFirst(text)
		token.Line = 1
		list = append(list, token)
	}
	for _, a := range list {
		for _, b := range list {
			joined, err := lexer.Join([]api.Token{a, b})
			if err != api.OK {
				t.Errorf("Join(%v, %v) = %d", a, b, err)
			}
			checkTokens(t, joined, []api.Token{a, b}, 0, api.OK)
		}
	}
}

// P7.4: a joined string that has MaxSource bytes is not too long.
func TestTokensOfLongJoinedStrings(t *testing.T) {
	list := slices.Repeat([]api.Token{mark(";", 1)}, api.MaxSource/2-1)
	list = append(list, mark("==", 1))
	joined, err := lexer.Join(list)
	if len(joined) != api.MaxSource || err != api.OK {
		t.Fatalf("Join has %d bytes, %d", len(joined), err)
	}
	checkTokens(t, joined, list, 0, api.OK)
	joined, err = lexer.Join(append(list, mark("=", 1)))
	if err != api.OK {
		t.Errorf("Join = %d", err)
	}
	checkTokens(t, joined, nil, 0, api.ErrLimit)
}

func checkSequence(t *testing.T, first, second string) {
	t.Helper()
	before, _, err := lexer.Tokens(first)
	if err != api.OK {
		return
	}
	lines := strings.Count(first, "\n") + 1
	behind, line, err := lexer.Tokens(second)
	if err != api.OK {
		checkTokens(t, first+"\n"+second, nil, line+lines, err)
		return
	}
	checkTokens(t, first+"\n"+second, append(before, moved(behind, lines)...), 0, api.OK)
}

// P7.5
func TestTokensOfSequences(t *testing.T) {
	r := rand.New(rand.NewSource(3))
	wrong := append(pieces(), ".", "00", "2147483648", "a123456789_BCDEFG")
	for range 20000 {
		checkSequence(t, randomSource(r, pieces()), randomSource(r, pieces()))
		checkSequence(t, randomSource(r, pieces()), randomSource(r, wrong))
	}
	list := allStrings(strings.Split("a0<=/\n", ""), 3)
	for _, first := range list {
		for _, second := range list {
			checkSequence(t, first, second)
		}
	}
}
