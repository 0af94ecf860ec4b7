package classtext_test

import (
	"math"
	"slices"
	"strings"
	"testing"

	"testbench/api"
	"testbench/class"
	"testbench/classtext"
	"testbench/item"
)

const levels = 1 << 16 // of the deepest nesting for which the document promises anything

// lines returns the lines, each with a line feed.
func lines(l ...string) string {
	return strings.Join(append(l, ""), "\n")
}

func checkWeights(t *testing.T, want string, l ...api.Weight) {
	t.Helper()
	crowded := roomy(l)
	if got := classtext.Weights(crowded); got != want {
		t.Errorf("Weights(%s) = %q; want %q", show(l), got, want)
	}
	checkRoom(t, crowded, l)
}

func checkItems(t *testing.T, l []api.Item, indent int, want string) {
	t.Helper()
	crowded := roomy(l)
	if got := classtext.Items(crowded, indent); got != want {
		t.Errorf("Items(%s, %d) = %q; want %q", show(l), indent, got, want)
	}
	checkRoom(t, crowded, l)
}

// checkSource checks Print of each class, where "" stands for none, and Source of all of them.
func checkSource(t *testing.T, src []api.Class, texts ...string) {
	t.Helper()
	crowded := roomy(src)
	for i, c := range crowded {
		if got := classtext.Print(c); got != texts[i] {
			t.Errorf("Print(%s) = %q; want %q", show(c), got, texts[i])
		}
	}
	want := strings.Join(texts, "\n")
	if slices.Contains(texts, "") {
		want = ""
	}
	if got := classtext.Source(crowded); got != want {
		t.Errorf("Source(%s) = %q; want %q", show(src), got, want)
	}
	checkRoom(t, crowded, src)
}

func checkPrint(t *testing.T, c api.Class, want string) {
	t.Helper()
	checkSource(t, []api.Class{c}, want)
}

// P12.1
func TestWeights(t *testing.T) {
	checkWeights(t, "")
	checkWeights(t, "0 := 2, 1 .. 3 :/ 6", api.Weight{Lo: 0, Hi: 0, Weight: 2, Each: true}, api.Weight{Lo: 1, Hi: 3, Weight: 6})
	checkWeights(t, "5 :/ 1", api.Weight{Lo: 5, Hi: 5, Weight: 1})
	checkWeights(t, "0 .. 65535 := 1000", api.Weight{Lo: 0, Hi: 65535, Weight: 1000, Each: true})
	checkWeights(t, "0 :/ 0, 0 :/ 0", api.Weight{}, api.Weight{})
	// Ranges that no constraint can have.
	checkWeights(t, "-1 := -1", api.Weight{Lo: -1, Hi: -1, Weight: -1, Each: true})
	checkWeights(t, "3 .. 1 :/ 1001, 65536 .. -10 := 0", api.Weight{Lo: 3, Hi: 1, Weight: 1001}, api.Weight{Lo: 65536, Hi: -10, Each: true})
	checkWeights(t, "-9223372036854775808 .. 9223372036854775807 :/ -9223372036854775808", api.Weight{Lo: math.MinInt, Hi: math.MaxInt, Weight: math.MinInt})
	checkWeights(t, "-9223372036854775808 := 9223372036854775807", api.Weight{Lo: math.MinInt, Hi: math.MinInt, Weight: math.MaxInt, Each: true})
	for _, n := range []int{16, 17, 100000} {
		checkWeights(t, "7 := 1"+strings.Repeat(", 7 := 1", n-1), slices.Repeat([]api.Weight{{Lo: 7, Hi: 7, Weight: 1, Each: true}}, n)...)
	}
}

// P12.1: for any list.
func TestWeightsOfRandomLists(t *testing.T) {
	m := newMaker(2)
	number := func() int {
		return pick(m, 0, 1, -1, 65535, m.Intn(100), -m.Intn(100), int(m.Uint64()), math.MinInt, math.MaxInt)
	}
	for range 3000 {
		var l []api.Weight
		for range m.Intn(5) {
			lo := number()
			l = append(l, api.Weight{Lo: lo, Hi: pick(m, lo, number()), Weight: number(), Each: m.Intn(2) == 0})
		}
		if got := weightsOf(classtext.Weights(l)); !equal(got, l) {
			t.Errorf("the weights of %s are %s", show(l), show(got))
		}
	}
}

// P12.2: each kind.
func TestItems(t *testing.T) {
	checkItems(t, nil, 0, "")
	checkItems(t, list(hard("kind < 3")), 0, "kind < 3;\n")
	checkItems(t, list(soft("!(a>=b)")), 1, "    soft !(b <= a);\n")
	checkItems(t, list(hard("d[2] == d@2 + sum(d)")), 2, "        d[2] == d@2 + sum(d);\n")
	checkItems(t, list(dist("a")), 0, "dist a { 1 .. 2 :/ 3 };\n")
	checkItems(t, list(dist("d[7]", api.Weight{Weight: 2, Each: true}, api.Weight{Hi: 65535})), 1, "    dist d[7] { 0 := 2, 0 .. 65535 :/ 0, 1 .. 2 :/ 3 };\n")
	checkItems(t, list(solve("a", "b")), 0, "solve a before b;\n")
	checkItems(t, list(solve("a d[0] a", longName+"[7] b")), 2, "        solve a, d[0], a before "+longName+"[7], b;\n")
	checkItems(t, list(when("a")), 0, lines("if (a) {", "}"))
	checkItems(t, list(when("a ? b : c", hard("b"), soft("c"))), 1, lines("    if (a ? b : c) {", "        b;", "        soft c;", "    }"))
	checkItems(t, list(otherwise(when("a", hard("b")), soft("c"), hard("d"))), 0, lines("if (a) {", "    b;", "} else {", "    soft c;", "    d;", "}"))
	checkItems(t, list(otherwise(when("a"), hard("b"))), 1, lines("    if (a) {", "    } else {", "        b;", "    }"))
	checkItems(t, list(otherwise(when("a", hard("b")), list()...)), 0, lines("if (a) {", "    b;", "}"))
	checkItems(t, list(each("i", "data")), 0, lines("each i in data {", "}"))
	checkItems(t, list(each("i", "data", hard("data[i] < 9"), soft("i"))), 1, lines("    each i in data {", "        data[i] < 9;", "        soft i;", "    }"))
	checkItems(t, list(hard("a"), dist("a"), hard("a"), solve("a", "b")), 0, lines("a;", "dist a { 1 .. 2 :/ 3 };", "a;", "solve a before b;"))
}

// nested returns an if in which constraints have the greatest nesting.
func nested() api.Item {
	return otherwise(when("a", each("i", "d", otherwise(when("b"), each("j", "e", hard("x"))), hard("y"))), when("c", when("z")))
}

// P12.2: constraints in others stand further to the right, even beyond the greatest indentation.
func TestItemsNested(t *testing.T) {
	form := []string{"if (a) {", "    each i in d {", "        if (b) {", "        } else {", "            each j in e {", "                x;", "            }", "        }", "        y;", "    }", "} else {", "    if (c) {", "        if (z) {", "        }", "    }", "}"}
	for indent := range 33 {
		var want []string
		for _, line := range form {
			want = append(want, strings.Repeat("    ", indent)+line)
		}
		checkItems(t, list(nested()), indent, lines(want...))
	}
}

// P12.2
func TestItemsIndentations(t *testing.T) {
	l := list(hard("a"), nested())
	for _, indent := range []int{-1, 33, 34, 36, -32, math.MinInt, math.MaxInt, 1 << 32, 1<<32 + 1} {
		checkItems(t, l, indent, "")
	}
	checkItems(t, list(hard("a")), 32, strings.Repeat(" ", 128)+"a;\n")
}

// wrongItems returns lists of constraints that are not valid.
func wrongItems() [][]api.Item {
	deep, many := hard("a"), slices.Repeat(list(hard("a")), 65)
	for range 5 {
		deep = when("a", deep)
	}
	deepest := hard("a")
	for range levels - 1 {
		deepest = when("a", deepest)
	}
	weights := slices.Repeat([]api.Weight{{}}, 16)
	named := hard("a")
	named.Name = "a"
	wrong := [][]api.Item{
		many, {when("a", many[1:]...)}, {otherwise(when("a"), many[1:]...)}, {deep}, {deepest}, {each("i", "d", deep)},
		{{}}, {{Kind: 7}}, {{Kind: -1}}, {{Kind: math.MaxInt}}, {{Kind: math.MinInt}}, {{Kind: 7, Expr: ex("a")}}, {named},
		{{Kind: api.ItHard}}, {{Kind: api.ItSoft, Expr: number(65536)}}, {{Kind: api.ItIf}}, {{Kind: api.ItHard, Expr: api.Expr{Op: api.ExVar, Name: "d@1"}}},
		{dist("A")}, {dist("d[8]")}, {dist("")}, {{Kind: api.ItDist, Name: "a"}}, {dist("a", weights...)}, {dist("a", api.Weight{Lo: 2, Hi: 1})}, {dist("a", api.Weight{Lo: -1})}, {dist("a", api.Weight{Weight: 1001})},
		{solve("", "a")}, {solve("a", "")}, {solve("a in", "b")}, {solve("a", "b@1")}, {each("i", "d[0]")}, {each("in", "d")}, {each("", "d")}, {each("i", "")},
		{when("a", dist("a"))}, {otherwise(when("a"), solve("a", "b"))}, {each("i", "d", dist("a"))}, {otherwise(each("i", "d"), hard("a"))}, {when("a", api.Item{})}, {otherwise(when("a"), each("i", "d", named))},
	}
	for _, l := range slices.Clone(wrong) {
		wrong = append(wrong, slices.Concat(list(hard("a")), l), slices.Concat(l, list(hard("a"))))
	}
	return wrong
}

// P12.2, P12.3: what is not valid has no text.
func TestWrongItems(t *testing.T) {
	for _, l := range wrongItems() {
		for _, indent := range []int{0, 2, 32} {
			if got := classtext.Items(l, indent); got != "" {
				t.Errorf("Items(%s, %d) = %q", show(l), indent, got)
			}
		}
		c := example()
		c.Blocks = append(c.Blocks, api.Block{Name: "wrong", Items: l})
		if got := classtext.Print(c) + classtext.Source([]api.Class{c}); got != "" {
			t.Errorf("Print and Source of %s are %q", show(c), got)
		}
	}
}

// P12.2: random constraints, valid or not; those that are valid are restored from their text.
func TestItemsOfRandomConstraints(t *testing.T) {
	m := newMaker(3)
	for range 3000 {
		l := m.validItems()
		if m.Intn(2) == 0 {
			l = m.spoiled(l, 1+m.Intn(6))
		}
		indent := m.Intn(37) - 2
		crowded := roomy(l)
		text := classtext.Items(crowded, indent)
		checkRoom(t, crowded, l)
		if item.Valid(l) != api.OK || indent < 0 || indent > 32 {
			checkItems(t, l, indent, "")
			continue
		}
		if got := read(t, text, itemsAt(indent)); !equal(got, l) {
			t.Errorf("Items(%s) = %q, which is the text of %s", show(l), text, show(got))
		}
	}
}

// example returns the class of the chapter.
func example() api.Class {
	return api.Class{Name: "p", Parent: "base", Fields: []api.Field{{Name: "kind", Width: 2, Mode: api.MoRand}}, Blocks: []api.Block{{Name: "legal", Items: list(hard("kind < 3"))}}}
}

const exampleText = "class p extends base {\n    rand kind : 2;\n    constraint legal {\n        kind < 3;\n    }\n}\n"

// P12.3
func TestPrint(t *testing.T) {
	checkPrint(t, example(), exampleText)
	checkPrint(t, api.Class{Name: "a"}, lines("class a {", "}"))
	checkPrint(t, api.Class{Name: longName, Parent: longName}, lines("class "+longName+" extends "+longName+" {", "}"))
	checkPrint(t, api.Class{Name: "c", Fields: []api.Field{
		{Name: "a", Width: 1}, {Name: "b", Width: 8, Init: 255}, {Name: "c", Width: 3, Size: 8, Init: 7}, {Name: "d", Width: 4, Mode: api.MoRand}, {Name: "e", Width: 5, Size: 1, Mode: api.MoRand}, {Name: "f", Width: 6, Mode: api.MoCyclic},
	}}, lines("class c {", "    state a : 1 = 0;", "    state b : 8 = 255;", "    state c[8] : 3 = 7;", "    rand d : 4;", "    rand e[1] : 5;", "    randc f : 6;", "}"))
	checkPrint(t, api.Class{Name: "c", Blocks: []api.Block{{Name: "x"}, {Name: "c", Items: list(when("a", soft("b")), solve("a", "b"))}, {Name: "y"}}},
		lines("class c {", "    constraint x {", "    }", "    constraint c {", "        if (a) {", "            soft b;", "        }", "        solve a before b;", "    }", "    constraint y {", "    }", "}"))
	// A field and a block may have the same name, and constraints may name what the class does not have.
	checkPrint(t, api.Class{Name: "sum", Fields: []api.Field{{Name: "sum", Width: 1, Mode: api.MoRand}}, Blocks: []api.Block{{Name: "sum", Items: list(hard("ones(nobody)"))}}},
		lines("class sum {", "    rand sum : 1;", "    constraint sum {", "        ones(nobody);", "    }", "}"))
}

// wrongClasses returns classes that are not valid.
func wrongClasses() []api.Class {
	var wrong []api.Class
	add := func(change func(c *api.Class)) {
		c := example()
		change(&c)
		wrong = append(wrong, c)
	}
	for _, name := range []string{"", "A", "rand", "a[0]", "a b", "é", longName + "G"} {
		add(func(c *api.Class) { c.Name = name })
		add(func(c *api.Class) { c.Fields[0].Name = name })
		add(func(c *api.Class) { c.Blocks[0].Name = name })
		if name != "" {
			add(func(c *api.Class) { c.Parent = name })
		}
	}
	for _, f := range []api.Field{
		{Name: "x"}, {Name: "x", Width: 9}, {Name: "x", Width: -1}, {Name: "x", Width: 1, Size: -1}, {Name: "x", Width: 1, Size: 9}, {Name: "x", Width: 1, Mode: 3}, {Name: "x", Width: 1, Mode: -1},
		{Name: "x", Width: 1, Size: 1, Mode: api.MoCyclic}, {Name: "x", Width: 1, Init: 2}, {Name: "x", Width: 8, Init: -1}, {Name: "x", Width: 8, Init: 1, Mode: api.MoRand}, {Name: "kind", Width: 1},
	} {
		add(func(c *api.Class) { c.Fields = append(c.Fields, f) })
	}
	add(func(c *api.Class) { c.Blocks = append(c.Blocks, api.Block{Name: "legal"}) })
	for i := range 17 {
		name := "x" + string(rune('a'+i))
		add(func(c *api.Class) { *c = wide(i + 1); c.Fields[i].Name = "A" })
		add(func(c *api.Class) { *c = wide(i + 1); c.Blocks[i].Name = "A" + name })
	}
	return append(wrong, wide(17), api.Class{})
}

// wide returns a class with n fields and n blocks.
func wide(n int) api.Class {
	c := api.Class{Name: "wide"}
	for i := range n {
		name := "x" + string(rune('a'+i))
		c.Fields = append(c.Fields, api.Field{Name: name, Width: 1, Mode: api.MoRand})
		c.Blocks = append(c.Blocks, api.Block{Name: name})
	}
	return c
}

// P12.3
func TestWrongClasses(t *testing.T) {
	for _, c := range wrongClasses() {
		checkPrint(t, c, "")
	}
	text := classtext.Print(wide(16))
	if got := read(t, text, (*reader).class); !equal(got, wide(16)) {
		t.Errorf("Print(%s) = %q", show(wide(16)), text)
	}
}

// P12.3: random classes, valid or not; those that are valid are restored from their text.
func TestPrintOfRandomClasses(t *testing.T) {
	m := newMaker(4)
	for range 2000 {
		c := m.class()
		if m.Intn(2) == 0 {
			c = m.spoiledClass(c)
		}
		if class.Valid(c) != api.OK || !blocksAreValid(c) {
			checkPrint(t, c, "")
			continue
		}
		text := classtext.Print(c)
		checkPrint(t, c, text)
		if got := read(t, text, (*reader).class); !equal(got, c) {
			t.Errorf("Print(%s) = %q, which is the text of %s", show(c), text, show(got))
		}
	}
}

// P12.3: the greatest class has a text.
func TestPrintOfGreatClass(t *testing.T) {
	e := api.Expr{Op: api.ExVar, Name: longName + "[7]"}
	for range 7 {
		e = node(api.ExAdd, e, e)
	}
	e = node(api.ExAdd, node(api.ExAdd, e, node(api.ExInv, e.Args[0])), number(65535))
	c := wide(16)
	for i := range c.Blocks {
		c.Blocks[i].Items = slices.Repeat(list(api.Item{Kind: api.ItHard, Expr: e}), 64)
	}
	text := classtext.Print(c)
	if got := strings.Count(text, "\n"); got != 2+16+16*66 {
		t.Errorf("the text has %d lines", got)
	}
	if want := 16*64*len(classtext.Items(c.Blocks[0].Items[:1], 2)) + len(classtext.Print(wide(16))); len(text) != want || len(text) < 1<<21 {
		t.Errorf("the text has %d bytes; want %d", len(text), want)
	}
}

// P12.4
func TestSource(t *testing.T) {
	a, p := api.Class{Name: "a"}, example()
	const text = "class a {\n}\n"
	checkSource(t, nil)
	checkSource(t, []api.Class{a, p}, text, exampleText)
	checkSource(t, []api.Class{p, p, a}, exampleText, exampleText, text)
	for _, c := range append(wrongClasses(), api.Class{Name: "b", Blocks: []api.Block{{Name: "x"}, {Name: "y", Items: list(dist(""))}}}) {
		checkSource(t, []api.Class{c, a}, "", text)
		checkSource(t, []api.Class{a, c, p}, text, "", exampleText)
		checkSource(t, []api.Class{a, p, c}, text, exampleText, "")
	}
	if got := classtext.Source([]api.Class{a, p, a}); got != text+"\n"+exampleText+"\n"+text {
		t.Errorf("the source is %q", got)
	}
	// The classes need not fit together, and may be too many for a source.
	checkSource(t, []api.Class{{Name: "a", Parent: "b"}, {Name: "b", Parent: "a"}, a}, "class a extends b {\n}\n", "class b extends a {\n}\n", text)
	checkSource(t, slices.Repeat([]api.Class{a}, 40), slices.Repeat([]string{text}, 40)...)
}

// P12.4: sources of random classes are restored from their texts.
func TestSourceOfRandomClasses(t *testing.T) {
	m := newMaker(5)
	for range 200 {
		var src []api.Class
		var texts []string
		for range m.Intn(5) {
			src = append(src, m.class())
			texts = append(texts, classtext.Print(src[len(src)-1]))
		}
		checkSource(t, src, texts...)
		text := classtext.Source(src)
		if got := read(t, text, (*reader).source); !equal(got, src) {
			t.Errorf("Source(%s) = %q, which is the text of %s", show(src), text, show(got))
		}
	}
}
