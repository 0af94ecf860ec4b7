package classparse_test

import (
	"fmt"
	"slices"
	"strings"
	"testing"

	"testbench/api"
	"testbench/classparse"
)

const opened = "class p { constraint c { " // what stands in front of constraints in a class

// inBlock returns the class whose only block has the constraints.
func inBlock(l []api.Item) api.Class {
	return api.Class{Name: "p", Blocks: []api.Block{{Name: "c", Items: l}}}
}

// checkItems checks the constraints of a source, by themselves and in a class.
func checkItems(t *testing.T, s string, l ...api.Item) {
	t.Helper()
	checkAnswer(t, "Items", s, answerOf(classparse.Items(s)), answer[[]api.Item]{Value: l})
	checkClass(t, opened+s+"\n} }", inBlock(l))
}

// checkClass checks the class of a source, by itself and, if it has no parent, as the only one of a source.
func checkClass(t *testing.T, s string, c api.Class) {
	t.Helper()
	checkAnswer(t, "Parse", s, answerOf(classparse.Parse(s)), answer[api.Class]{Value: c})
	if c.Parent == "" {
		checkSource(t, s, c)
	}
}

func checkSource(t *testing.T, s string, src ...api.Class) {
	t.Helper()
	checkAnswer(t, "Source", s, answerOf(classparse.Source(s)), answer[[]api.Class]{Value: src})
}

// checkWrongItems checks the error of constraints that is no token's, by themselves and in a class.
func checkWrongItems(t *testing.T, s string, err api.Errno) {
	t.Helper()
	checkAnswer(t, "Items", s, answerOf(classparse.Items(s)), answer[[]api.Item]{Err: err})
	checkClassFault(t, opened+s+"\n} }", 0, err)
}

// checkItemsFault checks the error of the tokens of constraints, by themselves and in a class, whatever follows.
func checkItemsFault(t *testing.T, s string, line int, err api.Errno) {
	t.Helper()
	checkAnswer(t, "Items", s, answerOf(classparse.Items(s)), answer[[]api.Item]{Line: line, Err: err})
	checkClassFault(t, opened+s, line, err)
	if err != api.ErrTruncated {
		checkClassFault(t, opened+s+" } } } 70000", line, err)
	}
}

// checkClassFault checks the error of a class, by itself and in a source, also behind other classes.
func checkClassFault(t *testing.T, s string, line int, err api.Errno) {
	t.Helper()
	checkAnswer(t, "Parse", s, answerOf(classparse.Parse(s)), answer[api.Class]{Line: line, Err: err})
	checkSourceFault(t, s, line, err)
	if line > 0 {
		line += 2
	}
	checkSourceFault(t, "class x { }\nclass y { rand a : 1; }\n"+s, line, err)
}

func checkSourceFault(t *testing.T, s string, line int, err api.Errno) {
	t.Helper()
	checkAnswer(t, "Source", s, answerOf(classparse.Source(s)), answer[[]api.Class]{Line: line, Err: err})
}

// P13.2: each kind.
func TestItems(t *testing.T) {
	checkItems(t, "")
	checkItems(t, "// nothing\n\n")
	checkItems(t, "a < 3;", hard("a < 3"))
	checkItems(t, "soft a == 1;", soft("a == 1"))
	checkItems(t, "a; soft b; c;", hard("a"), soft("b"), hard("c"))
	checkItems(t, "dist a { 0 := 2, 1 .. 3 :/ 6 };", dist("a", api.Weight{Weight: 2, Each: true}, api.Weight{Lo: 1, Hi: 3, Weight: 6}))
	checkItems(t, "dist d[7] { 5 :/ 0, 5 .. 5 := 1000, 0 .. 65535 := 1 };", dist("d[7]", api.Weight{Lo: 5, Hi: 5}, api.Weight{Lo: 5, Hi: 5, Weight: 1000, Each: true}, api.Weight{Hi: 65535, Weight: 1, Each: true}))
	checkItems(t, "if (a) { }", when("a"))
	checkItems(t, "if (a) { } else { }", when("a"))
	checkItems(t, "if (a) { b; soft c; }", when("a", hard("b"), soft("c")))
	checkItems(t, "if (a) { b; } else { soft c; d; } e;", otherwise(when("a", hard("b")), soft("c"), hard("d")), hard("e"))
	checkItems(t, "if (a) { } else { b; }", otherwise(when("a"), hard("b")))
	checkItems(t, "if (a) { if (b) { x; } } else { if (c) { } else { y; } }", otherwise(when("a", when("b", hard("x"))), otherwise(when("c"), hard("y"))))
	checkItems(t, "each i in d { d[i] < 9; }", each("i", "d", hard("d[i] < 9")))
	checkItems(t, "each i in d { }", each("i", "d"))
	checkItems(t, "each i in d { each j in e { if (d[i]) { e[j]; } } }", each("i", "d", each("j", "e", when("d[i]", hard("e[j]")))))
	checkItems(t, "solve a before b;", solve("a", "b"))
	checkItems(t, "solve a, d[0], a before "+longName+"[7], b;", solve("a d[0] a", longName+"[7] b"))
	checkItems(t, "solve d before a, b; solve a, b before c;", solve("d", "a b"), solve("a b", "c"))
}

// P13.2: the expressions of layer 9 end where nothing continues them; words that only begin like those of the grammar are names.
func TestItemsExpressions(t *testing.T) {
	checkItems(t, "softA; distA; ifs; eachA; solver; soft1;", hard("softA"), hard("distA"), hard("ifs"), hard("eachA"), hard("solver"), hard("soft1"))
	checkItems(t, "soft softA; soft (a);", soft("softA"), soft("a"))
	checkItems(t, "(a + b) * c; -a; 5; !(a); ~sum(d);", hard("(a + b) * c"), hard("-a"), hard("5"), hard("!a"), hard("~sum(d)"))
	checkItems(t, "a ? b : c; a => b; x inside { 1 .. 2, b .. c };", hard("a ? b : c"), hard("a => b"), hard("x inside { 1 .. 2, b .. c }"))
	checkItems(t, "a >= b; a > b;", hard("b <= a"), hard("b < a"))
	checkItems(t, "d[2]; d@2; d[a[b]];", hard("d[2]"), hard("d@2"), hard("d[a[b]]"))
	checkItems(t, "if ((a)) { (b); }", when("a", hard("b")))
	checkItems(t, "if (a ? b : c) { } if (x inside { 0 .. 1 }) { }", when("a ? b : c"), when("x inside { 0 .. 1 }"))
	checkItems(t, "sum; ones; sum + ones;", hard("sum"), hard("ones"), hard("sum + ones"))
	checkItems(t, "dist sum { 1 := 1 }; each ones in sum { }", dist("sum", api.Weight{Lo: 1, Hi: 1, Weight: 1, Each: true}), each("ones", "sum"))
}

// P13.2, P13.3: blanks and comments between all tokens.
func TestSpacing(t *testing.T) {
	checkItems(t, "a<3;soft a==1;dist a{0:=2,1..3:/6};if(a){b;}else{c;}each i in d{d[i];}solve a,b before d[0];",
		hard("a < 3"), soft("a == 1"), dist("a", api.Weight{Weight: 2, Each: true}, api.Weight{Lo: 1, Hi: 3, Weight: 6}), otherwise(when("a", hard("b")), hard("c")), each("i", "d", hard("d[i]")), solve("a b", "d[0]"))
	checkItems(t, "//;\n\ta // < 4;\n<// }\n3\n\n;//", hard("a < 3"))
	checkItems(t, "dist d [ 1 ] { 1 .. 2 := 3 } ; solve d\n[//\n1\n]\nbefore\na\n;", dist("d[1]", api.Weight{Lo: 1, Hi: 2, Weight: 3, Each: true}), solve("d[1]", "a"))
	checkClass(t, "\n\n class\tp// q\n{rand a[2]:1;state b:2=3;constraint c{}}\n // }\n", api.Class{
		Name:   "p",
		Fields: []api.Field{{Name: "a", Size: 2, Width: 1, Mode: api.MoRand}, {Name: "b", Width: 2, Init: 3}},
		Blocks: []api.Block{{Name: "c"}},
	})
	checkClass(t, "class p { rand a [ 2 ] : 1 ; }", api.Class{Name: "p", Fields: []api.Field{{Name: "a", Size: 2, Width: 1, Mode: api.MoRand}}})
}

// P13.3
func TestParse(t *testing.T) {
	checkClass(t, "class p { rand a : 2; constraint c { a < 3; soft a == 1; } }", api.Class{
		Name:   "p",
		Fields: []api.Field{{Name: "a", Width: 2, Mode: api.MoRand}},
		Blocks: []api.Block{{Name: "c", Items: list(hard("a < 3"), soft("a == 1"))}},
	})
	checkClass(t, "class p { }", api.Class{Name: "p"})
	checkClass(t, "class p extends q { }", api.Class{Name: "p", Parent: "q"})
	checkClass(t, "class "+longName+" extends "+longName+" { }", api.Class{Name: longName, Parent: longName})
	checkClass(t, "class p { state a : 1 = 0; state b : 8 = 255; state c[8] : 3 = 7; rand d : 4; rand e[1] : 5; randc f : 6; }", api.Class{Name: "p", Fields: []api.Field{
		{Name: "a", Width: 1}, {Name: "b", Width: 8, Init: 255}, {Name: "c", Width: 3, Size: 8, Init: 7}, {Name: "d", Width: 4, Mode: api.MoRand}, {Name: "e", Width: 5, Size: 1, Mode: api.MoRand}, {Name: "f", Width: 6, Mode: api.MoCyclic},
	}})
	checkClass(t, "class p { randc z : 8; rand y : 1; state x : 2 = 1; }", api.Class{Name: "p", Fields: []api.Field{{Name: "z", Width: 8, Mode: api.MoCyclic}, {Name: "y", Width: 1, Mode: api.MoRand}, {Name: "x", Width: 2, Init: 1}}})
	checkClass(t, "class p { constraint x { } constraint c { if (a) { soft b; } solve a before b; } constraint y { } }", api.Class{Name: "p", Blocks: []api.Block{
		{Name: "x"}, {Name: "c", Items: list(when("a", soft("b")), solve("a", "b"))}, {Name: "y"},
	}})
	// A field and a block may have the same name, and constraints may name what the class does not have.
	checkClass(t, "class sum { rand sum : 1; constraint sum { ones(nobody); } }", api.Class{Name: "sum", Fields: []api.Field{{Name: "sum", Width: 1, Mode: api.MoRand}}, Blocks: []api.Block{{Name: "sum", Items: list(hard("ones(nobody)"))}}})
}

// P13.4
func TestSource(t *testing.T) {
	checkSource(t, "")
	checkSource(t, " // class\n\n")
	checkSource(t, "class a { }", api.Class{Name: "a"})
	checkSource(t, "class b extends a { } class a { }class c extends b{}", api.Class{Name: "b", Parent: "a"}, api.Class{Name: "a"}, api.Class{Name: "c", Parent: "b"})
	checkSource(t, everything,
		api.Class{Name: "base", Fields: []api.Field{{Name: "mode", Width: 1, Init: 1}, {Name: "d", Width: 8, Size: 4, Mode: api.MoRand}}},
		api.Class{Name: "p", Parent: "base", Fields: []api.Field{{Name: "a", Width: 2, Mode: api.MoRand}, {Name: "b", Width: 3, Mode: api.MoCyclic}}, Blocks: []api.Block{
			{Name: "c", Items: list(
				hard("a + ones(b) inside { 1 .. 2, d[a] .. sum(d) }"),
				soft("a ? b : mode"),
				dist("a", api.Weight{Weight: 2, Each: true}, api.Weight{Lo: 1, Hi: 3, Weight: 6}),
				dist("d[1]", api.Weight{Lo: 5, Hi: 5}),
				otherwise(when("mode == 1", hard("a < b"), soft("!a")), each("i", "d", hard("d[i] < 9"), when("d@0"))),
				solve("a d", "b d[0] mode"),
			)},
			{Name: "e"},
		}})
}

// classes returns the source of n classes without parts.
func classes(n int) string {
	var b strings.Builder
	for i := range n {
		fmt.Fprintf(&b, "class a%d { }\n", i)
	}
	return b.String()
}

// P13.2: at last, the error of item.Valid.
func TestWrongItems(t *testing.T) {
	hardOnes := func(n int) string { return strings.Repeat("a;\n", n) }
	nested := func(n int) string { return strings.Repeat("if (a) {\n", n) + strings.Repeat("}", n) }
	checkItems(t, hardOnes(64), slices.Repeat(list(hard("a")), 64)...)
	checkWrongItems(t, hardOnes(65), api.ErrLimit)
	checkWrongItems(t, "if (a) {\n"+hardOnes(60)+"} else { "+hardOnes(4)+"}", api.ErrLimit)
	checkItems(t, nested(5), when("a", when("a", when("a", when("a", when("a"))))))
	checkWrongItems(t, nested(6), api.ErrArg)
	checkWrongItems(t, nested(65), api.ErrLimit)
	for _, s := range []string{
		"if (a) { dist a { 1 := 1 }; }", "if (a) { } else { solve a before b; }", "each i in d { dist a { 1 := 1 }; }",
		"dist a { 2 .. 1 := 1 };", "dist a { 65536 := 1 };", "dist a { 0 .. 2147483647 := 1 };", "dist a { 1 := 1001 };", "dist a { 1 :/ 2147483647 };",
		"dist a[8] { 1 := 1001 };", "dist a { 1 := 1 };\nsoft a;\ndist a { 1 := 1001 };\ndist a[8] { 1 := 1 };",
	} {
		checkWrongItems(t, s, api.ErrArg)
	}
	for _, s := range []string{
		"dist a[8] { 1 := 1 };", "dist a[2147483647] { 1 := 1 };", "solve a[8] before b;", "solve a before b, c[9];", "a;\nsolve a[8] before b;\ndist a { 1 := 1001 };",
	} {
		checkWrongItems(t, s, api.ErrName)
	}
	checkItems(t, "dist a { 1 := 1"+strings.Repeat(", 1 := 1", 15)+" };", dist("a", slices.Repeat([]api.Weight{{Lo: 1, Hi: 1, Weight: 1, Each: true}}, 16)...))
	checkWrongItems(t, "dist a { 1 := 1"+strings.Repeat(", 1 := 1", 16)+" };", api.ErrLimit)
}

// P13.3: at last, the error of class.Valid, then that of item.Valid.
func TestWrongClasses(t *testing.T) {
	fields := func(n int) string {
		var b strings.Builder
		for i := range n {
			fmt.Fprintf(&b, " rand a%d : 1;\n", i)
		}
		return b.String()
	}
	blocks := func(n int) string {
		var b strings.Builder
		for i := range n {
			fmt.Fprintf(&b, " constraint a%d { }\n", i)
		}
		return b.String()
	}
	for _, one := range []struct {
		body string
		err  api.Errno
	}{
		{fields(16) + blocks(16), api.OK}, {fields(17), api.ErrLimit}, {blocks(17), api.ErrLimit}, {fields(3000 / 2), api.ErrLimit},
		{"rand a : 8;", api.OK}, {"rand a : 0;", api.ErrArg}, {"rand a : 9;", api.ErrArg}, {"rand a : 2147483647;", api.ErrArg},
		{"rand a[8] : 1;", api.OK}, {"rand a[9] : 1;", api.ErrArg}, {"rand a[2147483647] : 1;", api.ErrArg}, {"randc a[1] : 1;", api.ErrArg}, {"state a[9] : 1 = 0;", api.ErrArg},
		{"state a : 3 = 7;", api.OK}, {"state a : 3 = 8;", api.ErrArg}, {"state a : 8 = 2147483647;", api.ErrArg},
		{"rand a : 1; randc a : 1;", api.ErrDuplicate}, {"constraint a { } constraint a { }", api.ErrDuplicate}, {"rand a : 1; constraint a { }", api.OK},
		{"rand a : 1; rand a : 9;", api.ErrArg},
		{"constraint c { dist a { 1 := 1001 }; } constraint d { dist a[8] { 1 := 1 }; }", api.ErrArg},
		{"constraint c { } constraint d { dist a[8] { 1 := 1 }; } constraint e { dist a { 1 := 1001 }; }", api.ErrName},
		{"rand a : 1; rand a : 1; constraint c { dist a { 1 := 1001 }; }", api.ErrDuplicate},
		{"rand a : 9; constraint c { dist a[8] { 1 := 1 }; }", api.ErrArg},
		{"constraint c { dist a[8] { 1 := 1 }; } constraint c { }", api.ErrDuplicate},
	} {
		s := "class p {\n" + one.body + "\n}\n"
		if one.err != api.OK {
			checkClassFault(t, s, 0, one.err)
		} else if got := answerOf(classparse.Parse(s)); got.Err != api.OK || got.Line != 0 || len(got.Value.Fields)+len(got.Value.Blocks) == 0 {
			t.Errorf("Parse(%s) is %s", quote(s), show(got))
		}
	}
}

// P13.4: at last, the errors of each class, then that of class.Check.
func TestWrongSources(t *testing.T) {
	wrong := func(body string) string { return "class z {\n" + body + "\n}\n" }
	for _, one := range []struct {
		s   string
		err api.Errno
	}{
		{classes(32), api.OK}, {classes(33), api.ErrLimit}, {classes(1000), api.ErrLimit},
		{"class a { } class a { }", api.ErrDuplicate}, {"class a extends b { }", api.ErrName}, {"class a extends a { }", api.ErrOrder}, {"class a extends b { } class b extends a { }", api.ErrOrder},
		{"class a { rand x : 1; } class b extends a { rand x : 1; }", api.ErrDuplicate}, {"class a { rand x : 1; } class b { rand x : 1; }", api.OK},
		{classes(33) + wrong("rand a : 9;"), api.ErrArg}, {classes(33) + wrong("constraint c { dist a[8] { 1 := 1 }; }"), api.ErrName},
		{wrong("rand a : 1; rand a : 1;") + wrong("rand a : 9;"), api.ErrDuplicate},
		{wrong("constraint c { dist a[8] { 1 := 1 }; }") + wrong("rand a : 9;"), api.ErrName},
		{wrong("rand a : 9;") + wrong("constraint c { dist a[8] { 1 := 1 }; }"), api.ErrArg},
		{"class a extends a { }" + wrong("rand a : 9;"), api.ErrArg},
	} {
		if one.err != api.OK {
			checkSourceFault(t, one.s, 0, one.err)
		} else if got := answerOf(classparse.Source(one.s)); got.Err != api.OK || got.Line != 0 || len(got.Value) != strings.Count(one.s, "class") {
			t.Errorf("Source(%s) is %s", quote(one.s), show(got))
		}
	}
	// Parse does not look for parents.
	checkClass(t, "class a extends a { }", api.Class{Name: "a", Parent: "a"})
}
