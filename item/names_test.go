package item_test

import (
	"slices"
	"testing"

	"testbench/api"
	"testbench/item"
)

const levels = 1 << 16 // of the deepest constraints for which the document promises anything

// nested returns so many constraints, each in the next one.
func nested(depth int) []api.Item {
	l := list(hard("a + x"))
	for k := range depth {
		switch k % 4 {
		case 0:
			l = list(when("b", l...))
		case 1:
			l = list(each("x", "d", l...))
		case 2:
			l = list(otherwise(when("c"), l...))
		case 3:
			l = list(api.Item{Items: l})
		}
	}
	return l
}

func checkSize(t *testing.T, want int, l ...api.Item) {
	t.Helper()
	crowded := roomy(l)
	if got := item.Size(crowded); got != want {
		t.Errorf("Size(%s) = %d; want %d", show(l), got, want)
	}
	checkRoom(t, crowded, l)
}

// P11.3
func TestSize(t *testing.T) {
	checkSize(t, 0)
	for _, right := range one() {
		checkSize(t, 1, right)
		checkSize(t, 4, right, otherwise(when("a", right), right))
		// The size is defined for what is wrong, too.
		right.Items, right.Else = list(hard("a"), otherwise(when("a"), hard("b"))), list(api.Item{})
		checkSize(t, 5, right)
	}
	checkSize(t, 1, api.Item{})
	checkSize(t, 3, api.Item{Kind: 99, Items: list(api.Item{}), Else: list(api.Item{})})
	checkSize(t, 5, each("i", "d", each("j", "d", otherwise(when("a", hard("b")), hard("c")))))
	checkSize(t, 65, slices.Repeat(list(hard("a")), 65)...)
	if got := item.Size(make([]api.Item, 1<<20)); got != 1<<20 {
		t.Errorf("Size of 2^20 constraints is %d", got)
	}
}

// P11.1, P11.3: 2^16 levels.
func TestDeepConstraints(t *testing.T) {
	l := nested(levels)
	if got := item.Size(l); got != levels+1 {
		t.Errorf("Size of %d levels is %d", levels, got)
	}
	if got := item.Valid(l); got != api.ErrLimit {
		t.Errorf("Valid of %d levels is %d", levels, got)
	}
	if got := item.Check(l, simple()); got != api.ErrLimit {
		t.Errorf("Check of %d levels is %d", levels, got)
	}
	if got, err := item.Expand(l, simple()); len(got) > 0 || err != api.ErrLimit {
		t.Errorf("Expand of %d levels is %s, %d", levels, show(got), err)
	}
	if got := item.Names(l); len(got) != 4 {
		t.Errorf("Names of %d levels is %q", levels, got)
	}
	e := deep(levels, ex("a"))
	for _, kind := range []int{api.ItHard, api.ItSoft, api.ItIf} {
		if got := item.Valid(list(api.Item{Kind: kind, Expr: e})); got != api.ErrLimit {
			t.Errorf("Valid of %d levels of an expression is %d", levels, got)
		}
		if got := item.Names(list(api.Item{Kind: kind, Expr: e})); !slices.Equal(got, []string{"a"}) {
			t.Errorf("Names of %d levels of an expression is %q", levels, got)
		}
	}
	if got := item.Valid(list(api.Item{Kind: api.ItSolve, Expr: e})); got != api.ErrArg {
		t.Errorf("Valid of %d levels of an expression of ItSolve is %d", levels, got)
	}
}

// P11.3
func TestSizeOfRandomConstraints(t *testing.T) {
	m := newMaker(3)
	for range 1000 {
		l := m.spoiled(m.class())
		checkSize(t, len(parts(l)), l...)
	}
}

func checkNames(t *testing.T, want []string, l ...api.Item) {
	t.Helper()
	crowded := roomy(l)
	got := item.Names(crowded)
	if !slices.Equal(got, want) {
		t.Errorf("Names(%s) = %q; want %q", show(l), got, want)
	}
	checkNew(t, got, crowded)
	checkRoom(t, crowded, l)
}

// P11.4
func TestNames(t *testing.T) {
	checkNames(t, nil)
	checkNames(t, []string{"b", "a"}, hard("b + a"), soft("a + b"))
	checkNames(t, []string{"d", "a", "e", "d[1]", "f"}, hard("d[a] + sum(e) + d@1 + d[sum(f)]"))
	checkNames(t, []string{"x", "y", "z"}, when("x", soft("y")), otherwise(when("y"), hard("z + x")))
	checkNames(t, []string{"c", "x", "y", "z"}, otherwise(when("c", hard("x + y")), hard("z + y")))
	checkNames(t, []string{"a", "d[0]", "z", "y", "x"}, dist("a"), dist("d[0]"), solve("z a y", "a x"))
	checkNames(t, []string{"d", "a"}, each("i", "d", hard("i + a"), when("i", soft("a"))))
	checkNames(t, []string{"d", "e", "k"}, each("i", "d", each("j", "e", hard("i + j + k"))))
	// Without its ItEach an index is a variable, before and behind it.
	checkNames(t, []string{"i", "d"}, hard("i"), each("i", "d", hard("i")))
	checkNames(t, []string{"d", "i", "j"}, each("i", "d", hard("i")), hard("i"), each("j", "d", hard("j")), hard("j"))
	checkNames(t, []string{"d", "j", "i"}, each("i", "d", hard("i + j")), each("j", "d", hard("j + i")))
	// It is only the name of a variable that is bound.
	checkNames(t, []string{"d", "i", "j", "i[0]"}, each("i", "d", hard("i[i] + sum(i) + sum(j) + i@0")))
	checkNames(t, []string{"i", "j"}, each("i", "i", each("j", "j", hard("i + j"))))
	checkNames(t, []string{"x", "d"}, each("i", "x"), each("j", "d", each("j", "x", hard("j")), hard("j")))
	checkNames(t, []string{"d", "a"}, each("j", "d", each("j", "a"), hard("j")), each("j", "d"))
}

// P11.4: names of what is wrong.
func TestNamesForAllLists(t *testing.T) {
	checkNames(t, nil, api.Item{}, api.Item{Kind: 99, Expr: ex("a"), Name: "b", Index: "c", Before: []string{"d"}, After: []string{"e"}})
	checkNames(t, []string{"", "A"}, dist(""), dist("A"), each("i", ""))
	checkNames(t, []string{"", "x", "in"}, hard("0"), api.Item{Kind: api.ItSolve, Before: []string{"", "x"}, After: []string{"in", ""}})
	// Fields that a kind does not use count nothing, but all constraints do.
	checkNames(t, []string{"a", "d", "b"}, api.Item{Kind: api.ItHard, Expr: ex("a"), Name: "x", Index: "y", Before: []string{"z"}, Items: list(each("i", "d", hard("i"))), Else: list(hard("b"))})
	checkNames(t, []string{"x", "a", "b"}, api.Item{Kind: api.ItDist, Name: "x", Expr: ex("y"), Items: list(hard("a")), Else: list(soft("b"))})
	checkNames(t, []string{"a", "b"}, api.Item{Items: list(hard("a")), Else: list(hard("b"))})
	checkNames(t, []string{"x", "y"}, api.Item{Kind: api.ItSolve, Before: []string{"x"}, Name: "z", Expr: ex("w"), Items: list(hard("y"))})
	// An index is bound in the Items alone, and only by an ItEach.
	around := each("i", "d", hard("i"))
	around.Else = list(hard("i"))
	checkNames(t, []string{"d", "i"}, around)
	around.Expr = ex("q")
	checkNames(t, []string{"d", "i"}, around)
	wrongly := when("a", hard("i"))
	wrongly.Index = "i"
	checkNames(t, []string{"a", "i"}, wrongly)
	checkNames(t, []string{"d", "i"}, each("i", "d", dist("i"), solve("i", "i")))
	checkNames(t, []string{"d"}, each("", "d", api.Item{Kind: api.ItHard, Expr: api.Expr{Op: api.ExVar}}))
	// Operands count wherever they are.
	odd := api.Expr{Op: api.ExVar, Name: "a", Args: []api.Expr{{Op: 99, Name: "b", Args: []api.Expr{ex("c"), {Op: api.ExConst, Name: "e"}}}}}
	checkNames(t, []string{"a", "c"}, api.Item{Kind: api.ItSoft, Expr: odd})
	checkNames(t, []string{"d", "c"}, each("a", "d", api.Item{Kind: api.ItSoft, Expr: odd}))
	many := slices.Repeat(list(hard("a"), hard("b")), 5000)
	checkNames(t, []string{"a", "b"}, many...)
}

// P11.4
func TestNamesOfRandomConstraints(t *testing.T) {
	m := newMaker(4)
	for range 2000 {
		l := m.spoiled(m.class())
		checkNames(t, modelNamesOf(l), l...)
	}
}
