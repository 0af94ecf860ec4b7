package class_test

import (
	"fmt"
	"slices"
	"testing"

	"testbench/api"
	"testbench/class"
)

const levels = 1 << 16 // of the deepest constraints for which the document promises anything

// child returns a class without fields and blocks.
func child(name, parent string) api.Class {
	return api.Class{Name: name, Parent: parent}
}

// with returns a class with the fields and blocks that have the names.
func with(name, parent string, fieldNames, blockNames []string) api.Class {
	return api.Class{Name: name, Parent: parent, Fields: fields(fieldNames...), Blocks: blocks(blockNames...)}
}

// hard returns a block whose constraint is the number, so that blocks with one name can be told apart.
func hard(name string, n int) api.Block {
	return api.Block{Name: name, Items: []api.Item{{Kind: api.ItHard, Expr: api.Expr{Op: api.ExConst, N: n}}}}
}

// chain returns so many classes, each the parent of the one before it: c0 is below all others.
func chain(count int) []api.Class {
	var src []api.Class
	for i := range count {
		src = append(src, child(fmt.Sprintf("c%d", i), fmt.Sprintf("c%d", i+1)))
	}
	src[count-1].Parent = ""
	return src
}

func checkCheck(t *testing.T, want api.Errno, src ...api.Class) {
	t.Helper()
	crowded := roomy(src)
	if got := class.Check(crowded); got != want {
		t.Errorf("Check(%s) = %d; want %d", show(src), got, want)
	}
	checkRoom(t, crowded, src)
	if want == api.OK {
		return
	}
	// The error is that of Line and Flatten, too, whatever is asked for.
	for _, name := range append(classNames(src), "", "other") {
		if line, err := class.Line(src, name); len(line) > 0 || err != want {
			t.Errorf("Line(%s, %q) = %q, %d; want the error %d", show(src), name, line, err, want)
		}
		if flat, err := class.Flatten(src, name); !equal(flat, api.Class{}) || err != want {
			t.Errorf("Flatten(%s, %q) = %s, %d; want the error %d", show(src), name, show(flat), err, want)
		}
	}
}

func checkFind(t *testing.T, src []api.Class, name string, want api.Class, wantFound bool) {
	t.Helper()
	crowded := roomy(src)
	got, found := class.Find(crowded, name)
	if !equal(got, want) || found != wantFound {
		t.Errorf("Find(%s, %q) = %s, %t; want %s, %t", show(src), name, show(got), found, show(want), wantFound)
	}
	checkNew(t, got, crowded)
	checkRoom(t, crowded, src)
}

func checkLine(t *testing.T, src []api.Class, name string, want []string, wantErr api.Errno) {
	t.Helper()
	crowded := roomy(src)
	got, err := class.Line(crowded, name)
	if !slices.Equal(got, want) || err != wantErr {
		t.Errorf("Line(%s, %q) = %q, %d; want %q, %d", show(src), name, got, err, want, wantErr)
	}
	checkRoom(t, crowded, src)
}

func checkFlatten(t *testing.T, src []api.Class, name string, want api.Class, wantErr api.Errno) {
	t.Helper()
	crowded := roomy(src)
	got, err := class.Flatten(crowded, name)
	if !equal(got, want) || err != wantErr {
		t.Errorf("Flatten(%s, %q) = %s, %d; want %s, %d", show(src), name, show(got), err, show(want), wantErr)
	}
	checkNew(t, got, crowded)
	checkRoom(t, crowded, src)
}

// P10.3
func TestCheck(t *testing.T) {
	checkCheck(t, api.OK)
	checkCheck(t, api.OK, child("p", ""))
	checkCheck(t, api.OK, child("p", ""), child("q", "p"), child("r", "q"), child("s", "q"), child("t", ""))
	checkCheck(t, api.OK, child("r", "q"), child("q", "p"), child("p", ""))
	checkCheck(t, api.OK, full("p", ""), full("q", "p"), full("r", "p"))
	checkCheck(t, api.ErrName, child("", ""))
	checkCheck(t, api.ErrName, child("p", ""), child("q", "r"))
	checkCheck(t, api.ErrName, child("p", "q"))
	checkCheck(t, api.ErrName, child("p", "P"))
	checkCheck(t, api.ErrDuplicate, child("p", ""), child("p", ""))
	checkCheck(t, api.ErrDuplicate, child("p", ""), child("q", "p"), child("p", "q"))
	checkCheck(t, api.ErrDuplicate, child("p", ""), child("q", ""), child("r", ""), child("r", "p"))
}

// P10.3
func TestCheckNumberOfClasses(t *testing.T) {
	checkCheck(t, api.OK, chain(31)...)
	checkCheck(t, api.OK, chain(32)...)
	checkCheck(t, api.ErrLimit, chain(33)...)
	checkCheck(t, api.ErrLimit, make([]api.Class, 33)...)
	checkCheck(t, api.ErrName, make([]api.Class, 32)...)
	if got := class.Check(make([]api.Class, 100000)); got != api.ErrLimit {
		t.Errorf("Check of 100000 classes is %d", got)
	}
}

// P10.3: classes that are among their own ancestors, and classes below them.
func TestCheckCycles(t *testing.T) {
	checkCheck(t, api.ErrOrder, child("p", "p"))
	checkCheck(t, api.ErrOrder, child("p", "q"), child("q", "p"))
	checkCheck(t, api.ErrOrder, child("p", "q"), child("q", "q"))
	checkCheck(t, api.ErrOrder, child("q", "q"), child("p", "q"))
	checkCheck(t, api.ErrOrder, child("o", ""), child("n", "o"), child("r", "p"), child("p", "q"), child("q", "r"))
	for _, length := range []int{1, 2, 3, 10, 31, 32} {
		for count := length; count <= 32; count += 7 {
			src := chain(count)
			src[count-1].Parent = src[count-length].Name
			checkCheck(t, api.ErrOrder, src...)
			slices.Reverse(src)
			checkCheck(t, api.ErrOrder, src...)
		}
	}
}

// P10.3
func TestCheckFields(t *testing.T) {
	a, b := []string{"a"}, []string{"b"}
	checkCheck(t, api.OK, with("p", "", a, nil), with("q", "p", b, nil))
	checkCheck(t, api.ErrDuplicate, with("p", "", a, nil), with("q", "p", a, nil))
	checkCheck(t, api.ErrDuplicate, with("q", "p", a, nil), with("p", "", a, nil))
	checkCheck(t, api.ErrDuplicate, with("p", "", []string{"x", "y", "a"}, nil), with("q", "p", b, nil), with("r", "q", []string{"c", "a"}, nil))
	checkCheck(t, api.ErrDuplicate, with("p", "", a, nil), child("q", "p"), child("r", "q"), with("s", "r", a, nil))
	// Below a class with an error there may be others.
	checkCheck(t, api.ErrDuplicate, with("p", "", a, nil), with("q", "p", a, nil), with("r", "q", b, nil))
	// Classes that are not related, blocks, and names of classes do not matter.
	checkCheck(t, api.OK, with("p", "", a, nil), with("q", "", a, nil))
	checkCheck(t, api.OK, with("o", "", b, nil), with("p", "o", a, nil), with("q", "o", a, nil), child("r", "q"))
	checkCheck(t, api.OK, with("p", "", a, b), with("q", "p", b, a), with("r", "q", []string{"p", "q", "r"}, b))
}

// P10.3
func TestCheckLimits(t *testing.T) {
	parent := with("p", "", numbered("a", 10), numbered("b", 10))
	checkCheck(t, api.OK, parent, with("q", "p", numbered("x", 6), numbered("y", 6)))
	checkCheck(t, api.ErrLimit, parent, with("q", "p", numbered("x", 7), nil))
	checkCheck(t, api.ErrLimit, parent, with("q", "p", nil, numbered("y", 7)))
	checkCheck(t, api.ErrLimit, with("q", "p", nil, numbered("y", 7)), parent)
	// A block that replaces another one does not count again.
	checkCheck(t, api.OK, parent, with("q", "p", nil, numbered("b", 16)))
	checkCheck(t, api.OK, parent, with("q", "p", nil, numbered("b", 16)), with("r", "q", nil, numbered("b", 16)))
	checkCheck(t, api.ErrLimit, parent, with("q", "p", nil, numbered("b", 16)), with("r", "q", nil, []string{"y"}))
	// Classes beside each other do not count together.
	checkCheck(t, api.OK, parent, with("q", "p", numbered("x", 6), numbered("y", 6)), with("r", "p", numbered("x", 6), numbered("z", 6)))
	// The limits hold for flat classes of several levels.
	for _, more := range []int{0, 1} {
		src := chain(16 + more)
		for i := range src {
			src[i].Fields = fields(fmt.Sprintf("f%d", i))
		}
		checkCheck(t, []api.Errno{api.OK, api.ErrLimit}[more], src...)
	}
	large := chain(32)
	for i := range large {
		large[i].Fields, large[i].Blocks = fields(numbered(fmt.Sprintf("a%d_", i), 16)...), blocks(numbered(fmt.Sprintf("b%d_", i), 16)...)
	}
	checkCheck(t, api.ErrLimit, large...)
}

// P10.3: of two errors the first one counts, in whatever class it is.
func TestCheckOrder(t *testing.T) {
	wrong := []struct {
		err     api.Errno
		classes []api.Class
	}{
		{api.ErrArg, []api.Class{{Name: "a", Fields: []api.Field{{Name: "x"}}}}},
		{api.ErrDuplicate, []api.Class{child("b", ""), child("b", "")}},
		{api.ErrName, []api.Class{child("c", "other")}},
		{api.ErrOrder, []api.Class{child("d", "e"), child("e", "d")}},
		{api.ErrDuplicate, []api.Class{with("f", "", []string{"x"}, nil), with("g", "f", []string{"x"}, nil)}},
		{api.ErrLimit, []api.Class{with("h", "", numbered("x", 9), nil), with("i", "h", numbered("y", 9), nil)}},
	}
	for i, first := range wrong {
		for _, second := range wrong[i+1:] {
			checkCheck(t, first.err, slices.Concat(first.classes, second.classes)...)
			checkCheck(t, first.err, slices.Concat(second.classes, first.classes)...)
		}
		checkCheck(t, api.ErrLimit, append(chain(32), first.classes...)...)
	}
	// Among the errors of Valid that of the first class counts.
	checkCheck(t, api.ErrArg, wrong[0].classes[0], child("A", ""))
	checkCheck(t, api.ErrName, child("A", ""), wrong[0].classes[0])
	checkCheck(t, api.ErrLimit, with("p", "", numbered("a", 17), nil), child("A", ""))
	checkCheck(t, api.ErrDuplicate, with("p", "", nil, []string{"a", "a"}), with("q", "", numbered("a", 17), nil))
	// Within one class, too, its parent is checked before what it inherits.
	checkCheck(t, api.ErrOrder, with("p", "p", []string{"x"}, nil))
	checkCheck(t, api.ErrOrder, with("p", "q", []string{"x"}, nil), with("q", "p", []string{"x"}, nil))
	checkCheck(t, api.ErrDuplicate, with("p", "", numbered("a", 16), nil), with("q", "p", []string{"b", "a15"}, nil))
}

// P10.4
func TestFind(t *testing.T) {
	src := []api.Class{full("p", ""), full("q", "p"), with("r", "q", []string{"x"}, []string{"y"})}
	for _, c := range src {
		checkFind(t, src, c.Name, c, true)
	}
	for _, name := range []string{"", "P", "other", "p ", "pq", "class"} {
		checkFind(t, src, name, api.Class{}, false)
	}
	checkFind(t, nil, "p", api.Class{}, false)
	checkFind(t, nil, "", api.Class{}, false)
	// The first one counts, and the source need not be accepted by Check.
	twice := []api.Class{full("q", "q"), with("p", "other", []string{"x", "x"}, nil), full("p", ""), {Fields: fields("A")}, {Name: "A", Parent: "?"}}
	checkFind(t, twice, "p", twice[1], true)
	checkFind(t, twice, "q", twice[0], true)
	checkFind(t, twice, "", twice[3], true)
	checkFind(t, twice, "A", twice[4], true)
	many := append(make([]api.Class, 50), full("p", "q"))
	checkFind(t, many, "p", many[50], true)
}

// P10.4
func TestLine(t *testing.T) {
	src := []api.Class{child("s", "q"), child("p", ""), child("r", "q"), child("q", "p"), child("o", "")}
	checkLine(t, src, "p", []string{"p"}, api.OK)
	checkLine(t, src, "q", []string{"q", "p"}, api.OK)
	checkLine(t, src, "r", []string{"r", "q", "p"}, api.OK)
	checkLine(t, src, "s", []string{"s", "q", "p"}, api.OK)
	checkLine(t, src, "o", []string{"o"}, api.OK)
	for _, name := range []string{"", "P", "other", "class", "p "} {
		checkLine(t, src, name, nil, api.ErrNotFound)
		checkLine(t, nil, name, nil, api.ErrNotFound)
	}
	long := chain(32)
	checkLine(t, long, "c0", classNames(long), api.OK)
	checkLine(t, long, "c30", []string{"c30", "c31"}, api.OK)
	slices.Reverse(long)
	checkLine(t, long, "c31", []string{"c31"}, api.OK)
	// An error of another class comes first.
	checkLine(t, append(src, child("t", "other")), "p", nil, api.ErrName)
	checkLine(t, append(src, child("t", "t")), "other", nil, api.ErrOrder)
}

// P10.5
func TestFlatten(t *testing.T) {
	base := api.Class{Name: "base", Fields: fields("a"), Blocks: []api.Block{hard("p", 1), hard("q", 2)}}
	sub := api.Class{Name: "sub", Parent: "base", Fields: fields("b"), Blocks: []api.Block{hard("q", 3), hard("r", 4)}}
	last := api.Class{Name: "last", Parent: "sub", Fields: fields("d", "c"), Blocks: []api.Block{hard("s", 5), {Name: "r"}, hard("p", 6)}}
	side := api.Class{Name: "side", Parent: "base", Fields: fields("b"), Blocks: []api.Block{hard("r", 7), hard("p", 8)}}
	src := []api.Class{last, base, side, sub}
	checkFlatten(t, src, "base", base, api.OK)
	checkFlatten(t, src, "sub", api.Class{Name: "sub", Fields: fields("a", "b"), Blocks: []api.Block{hard("p", 1), hard("q", 3), hard("r", 4)}}, api.OK)
	checkFlatten(t, src, "last", api.Class{Name: "last", Fields: fields("a", "b", "d", "c"), Blocks: []api.Block{hard("p", 6), hard("q", 3), {Name: "r"}, hard("s", 5)}}, api.OK)
	checkFlatten(t, src, "side", api.Class{Name: "side", Fields: fields("a", "b"), Blocks: []api.Block{hard("p", 8), hard("q", 2), hard("r", 7)}}, api.OK)
	checkFlatten(t, append(src, child("empty", "last")), "empty", api.Class{Name: "empty", Fields: fields("a", "b", "d", "c"), Blocks: []api.Block{hard("p", 6), hard("q", 3), {Name: "r"}, hard("s", 5)}}, api.OK)
	checkFlatten(t, []api.Class{child("p", "")}, "p", child("p", ""), api.OK)
	for _, name := range []string{"", "P", "other", "class", "p "} {
		checkFlatten(t, src, name, api.Class{}, api.ErrNotFound)
		checkFlatten(t, nil, name, api.Class{}, api.ErrNotFound)
	}
	checkFlatten(t, append(src, child("t", "other")), "base", api.Class{}, api.ErrName)
	checkFlatten(t, append(src, child("t", "t")), "other", api.Class{}, api.ErrOrder)
}

// P10.5: every part of a class is kept; what one argument has in two places is new memory in both.
func TestFlattenParts(t *testing.T) {
	p, q := full("p", ""), full("q", "p")
	want := api.Class{Name: "q", Fields: slices.Concat(p.Fields, q.Fields), Blocks: []api.Block{p.Blocks[0], q.Blocks[1], q.Blocks[2], q.Blocks[0]}}
	checkFlatten(t, []api.Class{p, q}, "q", want, api.OK)
	same := full("p", "")
	items := same.Blocks[0].Items
	same.Blocks[1].Items, same.Blocks[2].Items = items, items
	shared := []api.Class{same}
	flat, err := class.Flatten(shared, "p")
	found, _ := class.Find(shared, "p")
	if err != api.OK || !equal(flat, same) || !equal(found, same) {
		t.Errorf("Flatten gives %s, %d, Find gives %s; want %s", show(flat), err, show(found), show(same))
	}
	checkNew(t, flat, shared)
	checkNew(t, found, shared)
}

// P10.4, P10.5: constraints and expressions of many levels.
func TestDeepConstraints(t *testing.T) {
	e, item := api.Expr{Op: api.ExConst, N: 7}, api.Item{Kind: api.ItHard}
	for range levels - 1 {
		e = api.Expr{Op: api.ExNot, Args: []api.Expr{e}}
		item = api.Item{Kind: api.ItIf, Else: []api.Item{item}}
	}
	src := []api.Class{{Name: "p", Blocks: []api.Block{{Name: "b", Items: []api.Item{item, {Kind: api.ItHard, Expr: e}}}}}}
	found, isFound := class.Find(src, "p")
	flat, err := class.Flatten(src, "p")
	if !isFound || err != api.OK {
		t.Fatalf("Find gives %t, Flatten gives %d", isFound, err)
	}
	for _, c := range []api.Class{found, flat} {
		deepItem, deepExpr := c.Blocks[0].Items[0], c.Blocks[0].Items[1].Expr
		for range levels - 1 {
			deepItem, deepExpr = deepItem.Else[0], deepExpr.Args[0]
		}
		if deepItem.Kind != api.ItHard || deepExpr.N != 7 {
			t.Errorf("the deepest parts are %s and %s", show(deepItem), show(deepExpr))
		}
	}
}

// P10.3 to P10.5
func TestRandomSources(t *testing.T) {
	m := newMaker(4)
	for _, src := range m.sources(1000) {
		err := modelCheck(src)
		checkCheck(t, err, src...)
		name := pick(m, classNames(src)...)
		checkFind(t, src, name, src[slices.Index(classNames(src), name)], true)
		checkFind(t, src, "absent", api.Class{}, false)
		if err != api.OK {
			continue
		}
		for _, name := range classNames(src) {
			checkLine(t, src, name, classNames(modelLine(src, name)), api.OK)
		}
		checkLine(t, src, "absent", nil, api.ErrNotFound)
		checkFlatten(t, src, name, modelFlat(src, name), api.OK)
		checkFlatten(t, src, "absent", api.Class{}, api.ErrNotFound)
	}
}

// checkAlone checks P10.7 for a flat class and that of its parent.
func checkAlone(t *testing.T, flat, parent api.Class) {
	t.Helper()
	alone := []api.Class{flat}
	checkCheck(t, api.OK, alone...)
	checkFlatten(t, alone, flat.Name, flat, api.OK)
	vars, inherited := class.Vars(flat), class.Vars(parent)
	if len(vars) < len(inherited) || !slices.Equal(vars[:len(inherited)], inherited) {
		t.Errorf("the variables of %s, %s, do not begin with %s", show(flat), show(vars), show(inherited))
	}
}

// P10.7, P10.8
func TestFlatClasses(t *testing.T) {
	m, checked := newMaker(5), 0
	for _, src := range m.sources(600) {
		if class.Check(src) != api.OK {
			continue
		}
		mixed := slices.Clone(src)
		m.Shuffle(len(mixed), func(i, j int) { mixed[i], mixed[j] = mixed[j], mixed[i] })
		for _, c := range src {
			flat, err := class.Flatten(src, c.Name)
			if err != api.OK {
				t.Fatalf("Flatten(%s, %q) has the error %d", show(src), c.Name, err)
			}
			parent := flat
			if c.Parent != "" {
				parent, _ = class.Flatten(src, c.Parent)
				checked++
			}
			checkAlone(t, flat, parent)
			checkFlatten(t, mixed, c.Name, flat, api.OK)
		}
	}
	if checked < 300 {
		t.Errorf("only %d classes with a parent were checked", checked)
	}
}
