package classparse_test

import (
	"strings"
	"testing"

	"testbench/api"
	"testbench/classparse"
)

// P13.1: the errors of lexer.Tokens come first, whatever the grammar says.
func TestFaultsOfTokens(t *testing.T) {
	for _, one := range []struct {
		s    string
		line int
		err  api.Errno
	}{
		{"$", 1, api.ErrSyntax}, {"}\n\n;\n007", 4, api.ErrSyntax}, {"class class\n12a", 2, api.ErrSyntax}, {"a <\n.", 2, api.ErrSyntax}, {"a;\né;", 2, api.ErrSyntax},
		{"70000 70000\n\n2147483648", 3, api.ErrOverflow}, {"\n" + longName + "G;", 2, api.ErrLimit}, {"class p { } }\n" + longName + "G", 2, api.ErrLimit},
		{strings.Repeat(" ", 16385), 0, api.ErrLimit}, {"}" + strings.Repeat(" ", 16384), 0, api.ErrLimit}, {"$" + strings.Repeat("a", 1<<20), 0, api.ErrLimit},
	} {
		checkAnswer(t, "Items", one.s, answerOf(classparse.Items(one.s)), answer[[]api.Item]{Line: one.line, Err: one.err})
		checkAnswer(t, "Parse", one.s, answerOf(classparse.Parse(one.s)), answer[api.Class]{Line: one.line, Err: one.err})
		checkSourceFault(t, one.s, one.line, one.err)
	}
	blanks := strings.Repeat(" ", 16384-len("a;"))
	checkAnswer(t, "Items", "a;"+blanks, answerOf(classparse.Items("a;"+blanks)), answer[[]api.Item]{Value: list(hard("a"))})
	one := "class p { }" + strings.Repeat("\n", 16384-len("class p { }"))
	checkClass(t, one, api.Class{Name: "p"})
}

// P13.1: constraints that do not fit the grammar.
func TestFaultsOfItems(t *testing.T) {
	for _, one := range []struct {
		s    string
		line int
	}{
		{";", 1}, {"a;\n;", 2}, {"a\nb;", 2}, {"a;\nsoft\n;", 3}, {"soft soft\na;", 1}, {"a =\nb;", 1}, {"a ,\nb;", 1}, {"(a\n;", 2}, {"a)\n;", 1}, {"f\n(a);", 2},
		{"class\na;", 1}, {"else\n{ }", 1}, {"before\na;", 1}, {"constraint\nc { }", 1}, {"rand\na : 1;", 1}, {"in;", 1}, {"not\na;", 1}, {"plain;", 1}, {"{\na; }", 1},
		{"dist\n1", 2}, {"dist\n{", 2}, {"dist a\n;", 2}, {"dist a\n:", 2}, {"dist a[\nb]", 2}, {"dist a[\n]", 2}, {"dist a[1\n{", 2}, {"dist a[1\n+", 2}, {"dist a@\n1", 1}, {"dist a[1][\n1]", 1},
		{"dist a {\n}", 2}, {"dist a {\nb", 2}, {"dist a { -\n1 := 1", 1}, {"dist a { 1\n}", 2}, {"dist a { 1\n,", 2}, {"dist a { 1 ..\n:=", 2}, {"dist a { 1 .. 2\n..", 2}, {"dist a { 1 .. 2\n=", 2}, {"dist a { 1\n: 2", 2},
		{"dist a { 1 :=\nb", 2}, {"dist a { 1 :=\n-", 2}, {"dist a { 1 := 2\n;", 2}, {"dist a { 1 := 2\n3", 2}, {"dist a { 1 := 2,\n}", 2}, {"dist a { 1 := 2,\n,", 2}, {"dist a { 1 := 2 }\n}", 2}, {"dist a { 1 := 2 }\ndist", 2},
		{"if\na", 2}, {"if\n{", 2}, {"if (\n)", 2}, {"if (a\n{", 2}, {"if (a\nb)", 2}, {"if (a)\na;", 2}, {"if (a)\n;", 2}, {"if (a) {\n)", 2}, {"if (a) { ;\n}", 1}, {"if (a) { b\n}", 2},
		{"if (a) { } else\nif", 2}, {"if (a) { } else\na;", 2}, {"if (a) { } else { }\nelse", 2}, {"if (a) { };\n", 1}, {"if (a) { }\n;", 2}, {"if (a) { if (b) { } else { } }\nelse { } else", 2},
		{"each\n1", 2}, {"each\nin", 2}, {"each i\nof", 2}, {"each i\ninside", 2}, {"each i\n,", 2}, {"each i in\n{", 2}, {"each i in\n2", 2}, {"each i in d\n;", 2}, {"each i in d\n[", 2}, {"each i in d\na", 2}, {"each i[\n0] in", 1}, {"each i in d { }\n;", 2}, {"each i in d { }\nelse { }", 2},
		{"solve\nbefore", 2}, {"solve\n1", 2}, {"solve a\n;", 2}, {"solve a\nb", 2}, {"solve a,\nbefore", 2}, {"solve a,\n,", 2}, {"solve a before\n;", 2}, {"solve a before\nbefore", 2}, {"solve a before b\nbefore", 2}, {"solve a before b,\n;", 2}, {"solve a before b\n}", 2}, {"solve a[\ni] before", 2}, {"solve d@\n0 before", 1}, {"solve (\na)", 1},
	} {
		checkItemsFault(t, one.s, one.line, api.ErrSyntax)
	}
	// A brace that closes fits into a class, and nowhere else.
	for _, s := range []string{"}", "a; }", "if (a) { } } else {", "each i in d { a; } a; }"} {
		checkAnswer(t, "Items", s, answerOf(classparse.Items(s)), answer[[]api.Item]{Line: 1, Err: api.ErrSyntax})
	}
}

// P13.1: at an expression, the error is that of exprtext.Take.
func TestFaultsOfExpressions(t *testing.T) {
	deep := func(n int) string { return strings.Repeat("!", n-1) + "a" }
	for _, one := range []struct {
		s    string
		line int
		err  api.Errno
	}{
		{"a +\n* b;", 2, api.ErrSyntax}, {"a inside\n{ }", 2, api.ErrSyntax}, {"a inside {\n1 }", 2, api.ErrSyntax}, {"a ? b\n;", 2, api.ErrSyntax}, {"sum(\n1)", 2, api.ErrSyntax}, {"d[\n];", 2, api.ErrSyntax}, {"a inside { 1 .. 2 }\n+ b;", 2, api.ErrSyntax},
		{"\n65536;", 2, api.ErrOverflow}, {"a\n+ 70000 +\n* b", 2, api.ErrOverflow}, {"soft\n\n2147483647", 3, api.ErrOverflow}, {"if (a <\n65536", 2, api.ErrOverflow}, {"70000\n)", 1, api.ErrOverflow}, {"d@\n65536 b", 2, api.ErrOverflow}, {"a +\n*\n70000", 2, api.ErrSyntax}, {"a\n70000;", 2, api.ErrSyntax},
		{"\nd@8;", 0, api.ErrName}, {"soft d@65535\n", 0, api.ErrName}, {"if (d@8) {", 0, api.ErrName}, {"d@8\nb;", 0, api.ErrName}, {"d@8;\n}}}", 0, api.ErrName}, {"a;\nd@8; +\n;", 0, api.ErrName}, {"if (a) {\n} else { d@8; ; }", 0, api.ErrName}, {"b\na; d@8;", 2, api.ErrSyntax},
		{deep(25) + "; ;", 0, api.ErrLimit}, {"soft " + deep(25) + "\n", 0, api.ErrLimit}, {"if (" + deep(25) + ")", 0, api.ErrLimit}, {"a" + strings.Repeat("+a", 200), 0, api.ErrLimit},
		{"a inside { 1 .. 2" + strings.Repeat(", 1 .. 2", 16) + " }", 0, api.ErrArg}, {"!a inside { 1 .. 2" + strings.Repeat(", 1 .. 2", 16) + " }\n;;", 0, api.ErrArg},
	} {
		checkItemsFault(t, one.s, one.line, one.err)
	}
	checkItems(t, deep(24)+"; 65535;", hard(deep(24)), hard("65535"))
	checkItems(t, "a inside { 1 .. 2"+strings.Repeat(", 1 .. 2", 15)+" };", hard("a inside { 1 .. 2"+strings.Repeat(", 1 .. 2", 15)+" }"))
}

// P13.1: classes that do not fit the grammar.
func TestFaultsOfClasses(t *testing.T) {
	for _, one := range []struct {
		s    string
		line int
	}{
		{"p", 1}, {"}", 1}, {"\n{", 2}, {";", 1}, {"a;", 1}, {"constraint\nc { }", 1}, {"rand\na : 1;", 1}, {"extends", 1}, {"1", 1},
		{"class\n{", 2}, {"class\nclass", 2}, {"class\n1", 2}, {"class p\nq", 2}, {"class p\n;", 2}, {"class p\nrand", 2}, {"class p extends\n{", 2}, {"class p extends\nextends", 2}, {"class p extends q\n,", 2}, {"class p extends q\nextends", 2},
		{"class p {\n;", 2}, {"class p {\na", 2}, {"class p {\nclass", 2}, {"class p {\n{", 2}, {"class p {\nsoft", 2}, {"class p {\nextends", 2},
		{"class p { rand\n:", 2}, {"class p { rand\nrand", 2}, {"class p { rand a\n;", 2}, {"class p { rand a\n,", 2}, {"class p { rand a\n=", 2}, {"class p { rand a\n2", 2}, {"class p { rand a\n:= 2", 2}, {"class p { rand a :\n;", 2}, {"class p { rand a :\nb", 2}, {"class p { rand a :\n-", 2},
		{"class p { rand a : 2\n}", 2}, {"class p { rand a : 2\n=", 2}, {"class p { rand a : 2\n,", 2}, {"class p { randc a : 2\n= 0;", 2}, {"class p { rand a : 2;\n;", 2}, {"class p { rand a : 2;\nb", 2},
		{"class p { rand a[\n]", 2}, {"class p { rand a[\nb", 2}, {"class p { rand a[\n0]", 2}, {"class p { randc a[\n0", 2}, {"class p { state a[\n0", 2}, {"class p { rand a[1\n:", 2}, {"class p { rand a[1\n1", 2}, {"class p { rand a[1]\n[", 2}, {"class p { rand a[1]\n;", 2}, {"class p { rand a\n@1", 2},
		{"class p { state a : 2\n;", 2}, {"class p { state a : 2\n==", 2}, {"class p { state a : 2\n:=", 2}, {"class p { state a : 2 =\n;", 2}, {"class p { state a : 2 =\nb", 2}, {"class p { state a : 2 = 1\n,", 2}, {"class p { state a\n= 1", 2}, {"class p { state a : 2 = 1\n+", 2},
		{"class p { constraint\n{", 2}, {"class p { constraint\nconstraint", 2}, {"class p { constraint c\n;", 2}, {"class p { constraint c\na", 2}, {"class p { constraint c[\n0]", 1}, {"class p { constraint c { }\n;", 2}, {"class p { constraint c { }\nrand", 2}, {"class p { constraint c { }\nrandc", 2}, {"class p { constraint c { }\nstate", 2}, {"class p { constraint c { }\nclass", 2},
	} {
		checkClassFault(t, one.s, one.line, api.ErrSyntax)
		checkClassFault(t, one.s+" p { }", one.line, api.ErrSyntax)
	}
	// What stands behind the class.
	for _, s := range []string{"class p { }\n;", "class p { }\n}", "class p { rand a : 9; }\na", "class p { constraint c { a; } }\nrand", "class p { }\n70000"} {
		checkClassFault(t, s, 2, api.ErrSyntax)
	}
	checkAnswer(t, "Parse", "class p { }\nclass", answerOf(classparse.Parse("class p { }\nclass")), answer[api.Class]{Line: 2, Err: api.ErrSyntax})
	checkAnswer(t, "Parse", "class p { }\nclass q { }", answerOf(classparse.Parse("class p { }\nclass q { }")), answer[api.Class]{Line: 2, Err: api.ErrSyntax})
	checkSourceFault(t, "class p { }\nclass", 2, api.ErrTruncated)
}

// P13.1: sources that end where more is needed.
func TestTruncated(t *testing.T) {
	for _, s := range []string{"", " ", "\n\n", "// class p { }\n"} {
		checkAnswer(t, "Parse", s, answerOf(classparse.Parse(s)), answer[api.Class]{Err: api.ErrTruncated})
	}
	for _, one := range []struct {
		s    string
		line int
	}{
		{"a <", 1}, {"a", 1}, {"a;\nb\n\n // ;", 2}, {"soft", 1}, {"soft\n", 1}, {"dist", 1}, {"dist a", 1}, {"dist a[", 1}, {"dist a {", 1}, {"dist a { 1\n", 1}, {"dist a {\n1 ..", 2}, {"dist a { 1 := 2 }", 1},
		{"if", 1}, {"if (", 1}, {"if (a", 1}, {"if (a)\n\n", 1}, {"if (a) {", 1}, {"if (a) { b", 1}, {"if (a) { b; } else", 1}, {"if (a) { b; } else {", 1}, {"each", 1}, {"each i in\nd", 2}, {"each i in d {", 1}, {"solve a, b", 1}, {"solve a before", 1}, {"solve a before b", 1},
		{"(((a", 1}, {"a inside {\n1", 2}, {"a inside", 1}, {"a ? b :\n\n\n", 1},
	} {
		checkItemsFault(t, one.s, one.line, api.ErrTruncated)
	}
	checkClassFault(t, "class p { constraint c { a;\n", 1, api.ErrTruncated)
	checkClassFault(t, "class p { constraint c { a; }\n", 1, api.ErrTruncated)
	checkClassFault(t, "class p {\nrand a : 9;\n", 2, api.ErrTruncated)
}

// P13.1: all beginnings of classes, the tokens of which stand in lines of their own.
func TestBeginnings(t *testing.T) {
	class := textsOf(everything[strings.Index(everything, "class p"):])
	for n := range class {
		s := strings.Join(class[:n], "\n")
		checkAnswer(t, "Parse", s, answerOf(classparse.Parse(s)), answer[api.Class]{Line: n, Err: api.ErrTruncated})
	}
	all := textsOf(everything)
	complete := 0
	for n := range len(all) + 1 {
		s := strings.Join(all[:n], "\n") + "\n\n"
		got := answerOf(classparse.Source(s))
		if got.Err == api.OK {
			complete++
			continue
		}
		checkAnswer(t, "Source", s, got, answer[[]api.Class]{Line: n, Err: api.ErrTruncated})
	}
	if complete != 3 {
		t.Errorf("%d beginnings are sources", complete)
	}
}
