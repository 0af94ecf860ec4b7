package item_test

import (
	"fmt"
	"math"
	"slices"
	"testing"

	"testbench/api"
	"testbench/item"
)

func checkCheck(t *testing.T, c api.Class, want api.Errno, l ...api.Item) {
	t.Helper()
	crowded, crowdedClass := roomy(l), roomy(c)
	if got := item.Check(crowded, crowdedClass); got != want {
		t.Errorf("Check(%s, %s) = %d; want %d", show(l), show(c), got, want)
	}
	// The error is that of Expand, too.
	if list, err := item.Expand(crowded, crowdedClass); want != api.OK && (len(list) > 0 || err != want) {
		t.Errorf("Expand(%s, %s) = %s, %d; want %d", show(l), show(c), show(list), err, want)
	}
	checkRoom(t, crowded, l)
	checkRoom(t, crowdedClass, c)
}

// P11.2
func TestCheck(t *testing.T) {
	c := simple()
	checkCheck(t, c, api.OK)
	checkCheck(t, api.Class{}, api.OK)
	checkCheck(t, c, api.OK, hard("a + b < c"), soft("d[a] + sum(e) == f[d[7]] + d@2"), dist("a"), dist("d"), dist("d[2]"), solve("a d e[0]", "f[7] c"))
	checkCheck(t, c, api.OK, when("a", each("i", "d", hard("d[i] == i"), otherwise(when("i < e[i]"), soft("i")))))
	checkCheck(t, c, api.OK, each("i", "d", each("j", "f", hard("i + j"))), each("i", "e"), each("j", "d", each("i", "e", hard("i + j"))))
	// A class without fields allows what names none.
	checkCheck(t, api.Class{}, api.OK, hard("1"), soft("0"), when("2 < 3"))
	checkCheck(t, api.Class{}, api.ErrName, hard("a"))
}

// P11.2: the variables in expressions.
func TestCheckVariables(t *testing.T) {
	errors := map[string]api.Errno{
		"a": api.OK, "b": api.OK, "d@0": api.OK, "d@2": api.OK, "e@0": api.OK, "f@7": api.OK,
		"d": api.ErrType, "e": api.ErrType, "f": api.ErrType, "a@0": api.ErrType, "c@7": api.ErrType,
		"d@3": api.ErrName, "d@7": api.ErrName, "e@1": api.ErrName, "z": api.ErrName, "z@0": api.ErrName, "i": api.ErrName, "i@1": api.ErrName, "aa": api.ErrName, "aa@0": api.ErrName,
		"sum(d)": api.OK, "sum(e)": api.OK, "d[0]": api.OK, "d[3]": api.OK, "d[65535]": api.OK, "d[a]": api.OK, "f[f[b]]": api.OK,
		"sum(a)": api.ErrType, "a[0]": api.ErrType, "b[d@0]": api.ErrType, "c[z]": api.ErrType, "d[a[0]]": api.ErrType, "d[d]": api.ErrType,
		"sum(z)": api.ErrName, "z[0]": api.ErrName, "z[d]": api.ErrName, "d[z]": api.ErrName, "d[z[a]]": api.ErrName, "sum(i)": api.ErrName, "i[0]": api.ErrName,
	}
	for text, err := range errors {
		checkCheck(t, simple(), err, hard(text))
		checkCheck(t, simple(), err, soft(text))
		checkCheck(t, simple(), err, when(text))
		checkCheck(t, simple(), err, hard("1 + ("+text+")"))
		checkCheck(t, simple(), err, each("k", "d", otherwise(when("k"), hard(text))))
		// The first node in order counts.
		for other, otherErr := range errors {
			if err == api.OK {
				checkCheck(t, simple(), otherErr, hard("("+text+") + ("+other+")"))
			} else {
				checkCheck(t, simple(), err, hard("("+text+") + ("+other+")"))
				checkCheck(t, simple(), err, hard(text), hard(other))
			}
		}
	}
}

// P11.2: indices are numbers in the Items of their ItEach, and nowhere else.
func TestCheckIndices(t *testing.T) {
	c := simple()
	checkCheck(t, c, api.OK, each("i", "d", hard("i"), soft("i + d[i]"), when("i", hard("i"))))
	checkCheck(t, c, api.ErrName, each("i", "d", hard("i")), hard("i"))
	checkCheck(t, c, api.ErrName, hard("i"), each("i", "d"))
	checkCheck(t, c, api.ErrName, each("i", "d"), each("j", "d", hard("i")))
	checkCheck(t, c, api.ErrName, each("i", "d", each("j", "d")), each("i", "d", hard("j")))
	checkCheck(t, c, api.ErrName, each("i", "d", each("j", "d"), hard("j")))
	checkCheck(t, c, api.OK, each("i", "d", each("j", "d"), hard("i")))
	checkCheck(t, c, api.OK, each("i", "d", each("j", "d", hard("j")), each("j", "e", hard("j"))))
	checkCheck(t, c, api.OK, each("i", "d", otherwise(when("i", hard("i")), hard("i"))))
	// Only a variable with the name is the index.
	checkCheck(t, c, api.ErrName, each("i", "d", hard("sum(i)")))
	checkCheck(t, c, api.ErrName, each("i", "d", hard("i[0]")))
	checkCheck(t, c, api.ErrName, each("i", "d", hard("i@0")))
	checkCheck(t, c, api.ErrName, each("i", "d", each("j", "i")))
	// The index of an ItEach is not bound in its own Name.
	checkCheck(t, c, api.ErrName, each("i", "i"))
}

// P11.2: the names of ItEach.
func TestCheckEach(t *testing.T) {
	c := simple()
	for _, index := range []string{"a", "b", "c", "d", "e", "f"} {
		checkCheck(t, c, api.ErrDuplicate, each(index, "d"))
		checkCheck(t, c, api.ErrDuplicate, when("a", each("i", "d", each(index, "e", hard("z")))))
		// The array goes ahead of the index.
		checkCheck(t, c, api.ErrType, each(index, "a"))
		checkCheck(t, c, api.ErrName, each(index, "z"))
	}
	checkCheck(t, c, api.ErrDuplicate, each("i", "d", each("i", "e")))
	checkCheck(t, c, api.ErrDuplicate, each("i", "d", each("j", "e", when("i", each("i", "f")))))
	checkCheck(t, c, api.ErrDuplicate, each("i", "d", otherwise(when("i"), each("i", "e"))))
	checkCheck(t, c, api.OK, each("i", "d", each("j", "e")), each("j", "d", each("i", "e")), each("i", "f"))
	checkCheck(t, c, api.OK, each("i", "d", each("j", "e"), each("j", "f")))
	for _, name := range []string{"a", "b", "c"} {
		checkCheck(t, c, api.ErrType, each("i", name))
		checkCheck(t, c, api.ErrType, each("i", "d", each("i", name)))
	}
	checkCheck(t, c, api.ErrName, each("i", "z"))
	checkCheck(t, c, api.ErrName, each("i", "d", each("i", "z")))
}

// P11.2: the names of ItDist and ItSolve.
func TestCheckNames(t *testing.T) {
	for _, name := range []string{"a", "c", "d", "e", "f", "d[0]", "d[2]", "e[0]", "f[7]"} {
		checkCheck(t, simple(), api.OK, dist(name))
		checkCheck(t, simple(), api.OK, solve(name, "a "+name), solve("b "+name, name))
	}
	for _, name := range []string{"z", "i", "z[0]", "a[0]", "c[7]", "d[3]", "d[7]", "e[1]", "aa"} {
		checkCheck(t, simple(), api.ErrName, dist(name))
		for _, names := range []string{name, name + " a", "a " + name} {
			checkCheck(t, simple(), api.ErrName, solve(names, "b"))
			checkCheck(t, simple(), api.ErrName, solve("b", names))
		}
	}
}

// P11.2: of two constraints with errors the first one counts, and a constraint goes ahead of those that it contains.
func TestCheckOrder(t *testing.T) {
	c := simple()
	kind, name, duplicate := hard("d"), hard("z"), each("d", "d")
	for err, first := range map[api.Errno]api.Item{api.ErrType: kind, api.ErrName: name, api.ErrDuplicate: duplicate} {
		for _, second := range list(kind, name, duplicate) {
			checkCheck(t, c, err, hard("a"), first, second)
			checkCheck(t, c, err, when("a", first), second)
			checkCheck(t, c, err, otherwise(when("a", first), second))
			checkCheck(t, c, err, otherwise(when("a"), first), second)
			checkCheck(t, c, err, each("i", "d", when("i"), first), second)
		}
		checkCheck(t, c, api.ErrType, otherwise(when("d", first), first))
		checkCheck(t, c, api.ErrName, otherwise(when("z", first), first))
		checkCheck(t, c, api.ErrDuplicate, each("a", "d", first))
		checkCheck(t, c, api.ErrType, each("a", "a", first))
	}
	// Valid goes ahead of all.
	checkCheck(t, c, api.ErrArg, name, api.Item{})
	checkCheck(t, c, api.ErrName, kind, dist("A"))
	checkCheck(t, c, api.ErrLimit, slices.Repeat(list(name), 65)...)
}

// P11.2: only the names and the sizes of the fields count.
func TestCheckOtherParts(t *testing.T) {
	c := simple()
	c.Name, c.Parent, c.Blocks = "class", "A", []api.Block{{Name: "B", Items: list(api.Item{}, hard("z"))}, {}}
	for i := range c.Fields {
		c.Fields[i].Width, c.Fields[i].Mode, c.Fields[i].Init = -i, 99-i, math.MinInt+i
	}
	checkCheck(t, c, api.OK, hard("a + d[b] + f@7"), dist("a"), solve("a", "d"))
	checkCheck(t, c, api.ErrName, hard("z"))
	if list, err := item.Expand(list(each("i", "d", hard("d[i]"))), c); len(list) != 3 || err != api.OK {
		t.Errorf("Expand for %s is %s, %d", show(c), show(list), err)
	}
	if got, err := item.Scalar(ex("sum(d)"), c); !equal(got, ex("d@0 + d@1 + d@2")) || err != api.OK {
		t.Errorf("Scalar for %s is %s, %d", show(c), show(got), err)
	}
}

// P11.2: sizes that no valid class has.
func TestCheckSizes(t *testing.T) {
	for _, size := range []int{9, 10, 100, 1 << 20, math.MaxInt} {
		c := api.Class{Fields: []api.Field{field("d", size), field("a", 0)}}
		checkCheck(t, c, api.OK, hard("d[a] + sum(d) + d@7"), dist("d"), dist("d[7]"))
		checkCheck(t, c, api.ErrType, hard("d"))
		checkCheck(t, c, api.OK, each("i", "d", when("d[i]")))
	}
	// A field is an array if its size is positive.
	for _, size := range []int{-1, -8, math.MinInt} {
		c := api.Class{Fields: []api.Field{field("a", size)}}
		checkCheck(t, c, api.OK, hard("a"), dist("a"))
		checkCheck(t, c, api.ErrType, hard("a@0"))
		checkCheck(t, c, api.ErrType, hard("a[0]"))
		checkCheck(t, c, api.ErrType, each("i", "a"))
	}
	// Of two fields with one name the first one counts.
	c := api.Class{Fields: []api.Field{field("a", 0), field("a", 2), field("d", 2), field("d", 0), field("d", 3)}}
	checkCheck(t, c, api.OK, hard("a + sum(d) + d@1"))
	checkCheck(t, c, api.ErrName, hard("d@2"))
	checkCheck(t, c, api.ErrType, hard("sum(a)"))
	// Names that no valid class has: an element of a field without a size is no variable.
	c = api.Class{Fields: []api.Field{field("a[0]", 0), field("b[1]", 2), field("d[7]", 0), field("d", 3)}}
	checkCheck(t, c, api.OK, hard("a@0 + d@7 + d@2"), dist("a[0]"), dist("b[1]"))
	checkCheck(t, c, api.ErrType, hard("b@1"))
	c.Fields = append(c.Fields, field("a", 0))
	checkCheck(t, c, api.ErrType, hard("a@0"))
	checkCheck(t, c, api.ErrName, dist("a[0]"))
	checkCheck(t, c, api.ErrName, solve("a", "a[0]"))
	// Any number of fields will do.
	c = api.Class{}
	for i := range 1000 {
		c.Fields = append(c.Fields, field(fmt.Sprintf("x%d", i), i%3))
	}
	checkCheck(t, c, api.OK, hard("x0 + x999"), hard("sum(x998)"), hard("x998@1"))
	checkCheck(t, c, api.ErrName, hard("x997@1"))
}

// P11.2
func TestCheckOfRandomConstraints(t *testing.T) {
	m := newMaker(5)
	for range 1500 {
		c := m.class()
		l := m.spoiled(c)
		checkCheck(t, c, modelCheck(l, c), l...)
		right := m.items(4, c, nil)
		checkCheck(t, c, modelCheck(right, c), right...)
		other := m.class()
		checkCheck(t, other, modelCheck(right, other), right...)
	}
}
