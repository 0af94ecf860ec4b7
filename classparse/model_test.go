package classparse_test

import (
	"slices"
	"strings"
	"testing"

	"testbench/api"
	"testbench/class"
	"testbench/classparse"
	"testbench/classtext"
	"testbench/item"
	"testbench/lexer"
)

// answer is what a call returns.
type answer[T any] struct {
	Value T
	Line  int
	Err   api.Errno
}

func answerOf[T any](value T, line int, err api.Errno) answer[T] {
	return answer[T]{value, line, err}
}

// expected returns what the chapter says for a source that has the form of a rule, of whose tree make makes the value.
func expected[T any](s, rule string, make func(d tree) T, check func(value T) api.Errno) answer[T] {
	tokens, line, err := lexer.Tokens(s)
	if err != api.OK {
		return answer[T]{Line: line, Err: err}
	}
	d, line, err := derived(rule, tokens)
	if err != api.OK {
		return answer[T]{Line: line, Err: err}
	}
	value := make(d)
	if err := check(value); err != api.OK {
		return answer[T]{Err: err}
	}
	return answer[T]{Value: value}
}

func expectedItems(s string) answer[[]api.Item] {
	return expected(s, "<items>", tree.items, item.Valid)
}

func expectedClass(s string) answer[api.Class] {
	return expected(s, "<class>", tree.class, faultOfClass)
}

func expectedSource(s string) answer[[]api.Class] {
	return expected(s, "<source>", func(d tree) []api.Class { return collect(d, "<class>", tree.class) }, faultOfSource)
}

// faultOfClass returns the error of a class that has been read.
func faultOfClass(c api.Class) api.Errno {
	if err := class.Valid(c); err != api.OK {
		return err
	}
	for _, b := range c.Blocks {
		if err := item.Valid(b.Items); err != api.OK {
			return err
		}
	}
	return api.OK
}

// faultOfSource returns the error of classes that have been read.
func faultOfSource(src []api.Class) api.Errno {
	for _, c := range src {
		if err := faultOfClass(c); err != api.OK {
			return err
		}
	}
	return class.Check(src)
}

func checkAnswer[T any](t *testing.T, call, s string, got, want answer[T]) {
	t.Helper()
	if !equal(got, want) {
		t.Errorf("%s(%s) is %s; want %s", call, quote(s), show(got), show(want))
	}
}

// checkModel checks all three calls for a source, and returns the errors that are expected of them.
func checkModel(t *testing.T, s string) [3]api.Errno {
	t.Helper()
	items, one, all := expectedItems(s), expectedClass(s), expectedSource(s)
	checkAnswer(t, "Items", s, answerOf(classparse.Items(s)), items)
	checkAnswer(t, "Parse", s, answerOf(classparse.Parse(s)), one)
	checkAnswer(t, "Source", s, answerOf(classparse.Source(s)), all)
	return [3]api.Errno{items.Err, one.Err, all.Err}
}

const (
	keywords = "class extends rand randc state constraint soft dist if else each in solve before inside property seq and or not set hold plain repeat"
	marks    = "( ) { } [ ] , ; : .. ? = == != < <= > >= << >> + - * & | ^ ~ ! && || -> => := :/ ## @"
	others   = "a sum " + longName + " 0 1 9 65536 2147483647"
)

// samples are sources in which each part of the grammar occurs.
var samples = []string{
	"class p extends q { rand a : 2 ; randc b : 3 ; state d [ 4 ] : 1 = 0 ; constraint c { a ; } constraint e { } }",
	"class q { } class p { rand d [ 8 ] : 8 ; constraint c { soft a ; } }",
	"class p { constraint c { if ( a ) { b ; } else { if ( c ) { } soft d ; } } }",
	"class p { constraint c { each i in d { d [ i ] < 9 ; } solve a , d [ 0 ] before b , e ; dist a { 0 := 2 , 1 .. 3 :/ 6 } ; } }",
	"dist d [ 1 ] { 1 .. 2 := 3 } ; a inside { 1 .. b } ? c : sum ( d ) ; soft ! d @ 1 ;",
	"if ( a ) { each i in d { } } else { } solve a before b , c ; each i in d { if ( d [ i ] ) { a ; } else { soft b ; } }",
}

// mutant returns the source in which the tokens stand in place of those from the one index to the other, each in its own line.
func mutant(texts []string, from, to int, by ...string) string {
	return strings.Join(slices.Concat(texts[:from], by, texts[to:]), "\n")
}

// P13.1 to P13.4: sources with one token too few, too many, or another one.
func TestMutants(t *testing.T) {
	alphabet := strings.Fields(keywords + " " + marks + " " + others)
	counts := map[api.Errno]int{}
	check := func(s string) {
		for _, err := range checkModel(t, s) {
			counts[err]++
		}
	}
	for _, sample := range samples {
		texts := strings.Fields(sample)
		check(mutant(texts, 0, 0))
		for at := range texts {
			check(mutant(texts, at, len(texts)))
			check(mutant(texts, at, at+1))
			if at > 0 {
				check(mutant(texts, at-1, at+1, texts[at], texts[at-1]))
			}
			for _, by := range alphabet {
				check(mutant(texts, at, at+1, by))
				check(mutant(texts, at, at, by))
				check(mutant(texts, at, len(texts), by))
			}
		}
	}
	for _, err := range []api.Errno{api.OK, api.ErrArg, api.ErrOverflow, api.ErrSyntax, api.ErrTruncated, api.ErrName} {
		if counts[err] < 20 {
			t.Errorf("the errors are %v", counts)
		}
	}
}

// P13.1 to P13.4: all short sources, and what may follow in the middle of one.
func TestShortSources(t *testing.T) {
	alphabet := strings.Fields("class extends rand randc state constraint soft dist if else each in solve before ( ) { } [ ] , ; : .. = := :/ a 0 1")
	for _, begin := range []string{"", "class a {", "class a { rand a", "class a { constraint a { a ;", "dist a {", "dist a { 1", "if ( a ) {", "if ( a ) { }", "each a in a", "solve a", "solve a before a", "class a { state a : 1", "soft a"} {
		texts := strings.Fields(begin)
		for _, one := range alphabet {
			for _, two := range alphabet {
				checkModel(t, mutant(texts, len(texts), len(texts), one, two))
				for _, three := range alphabet {
					if begin == "" {
						checkModel(t, mutant(nil, 0, 0, one, two, three))
					}
				}
			}
		}
	}
}

// changed returns a copy of the tokens, with a few changes.
func (m maker) changed(texts, alphabet []string) []string {
	texts = slices.Clone(texts)
	for range m.Intn(4) {
		at := m.Intn(len(texts) + 1)
		to := min(len(texts), at+m.Intn(3))
		var by []string
		for range m.Intn(3) {
			by = append(by, pick(m, alphabet...))
		}
		texts = slices.Concat(texts[:at], by, texts[to:])
	}
	return texts
}

// exchanged returns a copy of the tokens, in which a few numbers and names are others, so that the source still fits the grammar most of the time.
func (m maker) exchanged(texts []string) []string {
	texts = slices.Clone(texts)
	for range m.Intn(4) * min(len(texts), 1) {
		at := m.Intn(len(texts))
		switch {
		case lexer.IsName(texts[at]):
			if other := pick(m, texts...); lexer.IsName(other) {
				texts[at] = other
			}
		case texts[at][0] >= '0' && texts[at][0] <= '9':
			texts[at] = pick(m, "0", "1", "8", "9", "256", "1001", "65536")
		}
	}
	return texts
}

// P13.1 to P13.4: random sources with random changes, blanks and comments.
func TestRandomSources(t *testing.T) {
	m := newMaker(3)
	words := strings.Fields(keywords + " " + marks + " " + others)
	counts := map[api.Errno]int{}
	for range 6000 {
		text := classtext.Source(m.family(3, "p"))
		if m.Intn(2) == 0 {
			text = classtext.Items(m.validItems(), 0)
		}
		texts := m.exchanged(textsOf(text))
		if m.Intn(2) == 0 {
			texts = m.changed(texts, slices.Concat(words, texts, texts, texts))
		}
		for _, err := range checkModel(t, m.spaced(texts)) {
			counts[err]++
		}
	}
	for _, err := range []api.Errno{api.OK, api.ErrArg, api.ErrOverflow, api.ErrSyntax, api.ErrTruncated, api.ErrName, api.ErrDuplicate} {
		if counts[err] < 10 {
			t.Errorf("the errors are %v", counts)
		}
	}
}

// P13.1: in front of the first token that does not fit, the source may go on.
func TestFirstToken(t *testing.T) {
	m := newMaker(4)
	words := strings.Fields(keywords + " " + marks + " " + others)
	count := 0
	for range 5000 {
		texts := m.changed(textsOf(classtext.Print(m.class(3, ""))), words)
		s := strings.Join(texts, "\n")
		_, line, err := classparse.Parse(s)
		if err != api.ErrSyntax && err != api.ErrOverflow {
			continue
		}
		count++
		before := strings.Join(texts[:line-1], "\n")
		if got := answerOf(classparse.Parse(before)); got.Err == api.ErrSyntax || got.Err == api.ErrOverflow {
			t.Errorf("%s has the error %d in line %d, but what comes before is %s", quote(s), err, line, show(got))
		}
		checkAnswer(t, "Parse", s, answerOf(classparse.Parse(strings.Join(texts[:line], "\n"))), answer[api.Class]{Line: line, Err: err})
	}
	if count < 2000 {
		t.Errorf("only %d sources do not fit", count)
	}
}

// Rule 0.1: any strings.
func TestRandomStrings(t *testing.T) {
	m := newMaker(5)
	words := strings.Fields(keywords + " " + marks + " " + others)
	for range 3000 {
		var b strings.Builder
		for range m.Intn(30) {
			b.WriteString(pick(m, "", " ", "\n"))
			b.WriteString(pick(m, pick(m, words...), pick(m, words...), pick(m, words...), pick(m, words...), string([]byte{byte(m.Intn(256))})))
		}
		checkModel(t, b.String())
	}
}

// Rule 0.1: as many levels as a source can have, and as many parts.
func TestDeepSources(t *testing.T) {
	for _, part := range []string{"(", "!", "a?", "a[", "if(a){", "if(a){}else{", "each i in d{", "a;", "soft a;", "a inside{", "dist a{1:=1};", "solve a before b;", "class a{}", "class a{", "class ", "}", "a,", "a=>", "ones("} {
		for _, begin := range []string{"", opened, "class p{", "dist a{", "solve ", "solve a before "} {
			s := begin + strings.Repeat(part, (api.MaxSource-len(begin))/len(part))
			checkModel(t, s)
			checkModel(t, s+strings.Repeat(" ", api.MaxSource-len(s)+1))
		}
	}
	for _, pair := range []string{"if(a){ }", "each i in d{ }", "( )"} {
		opening, closing, _ := strings.Cut(pair, " ")
		n := (api.MaxSource - 2) / len(opening+closing)
		checkModel(t, strings.Repeat(opening, n)+strings.Repeat(closing, n))
		checkModel(t, strings.Repeat(opening, n)+"a"+strings.Repeat(closing, n)+";")
	}
}
