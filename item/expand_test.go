package item_test

import (
	"fmt"
	"math"
	"slices"
	"testing"

	"testbench/api"
	"testbench/item"
)

func checkExpand(t *testing.T, c api.Class, l, want []api.Item, wantErr api.Errno) {
	t.Helper()
	crowded, crowdedClass := roomy(l), roomy(c)
	got, err := item.Expand(crowded, crowdedClass)
	if !equal(got, want) || err != wantErr {
		t.Errorf("Expand(%s, %s) = %s, %d; want %s, %d", show(l), show(c), show(got), err, show(want), wantErr)
	}
	checkNew(t, got, crowded)
	checkRoom(t, crowded, l)
	checkRoom(t, crowdedClass, c)
	if err == api.OK {
		checkExpanded(t, c, got)
	}
}

// checkExpanded checks C11.3: what Expand has returned, a part after the other, is accepted by Check and expanded to itself.
func checkExpanded(t *testing.T, c api.Class, l []api.Item) {
	t.Helper()
	for part := range slices.Chunk(l, api.MaxItems) {
		if err := item.Check(part, c); err != api.OK {
			t.Errorf("Check(%s, %s) = %d for what was expanded", show(part), show(c), err)
		}
		if again, err := item.Expand(part, c); !equal(again, part) || err != api.OK {
			t.Errorf("Expand(%s, %s) = %s, %d for what was expanded", show(part), show(c), show(again), err)
		}
	}
}

// P11.5: the examples of the chapter.
func TestExpandExamples(t *testing.T) {
	c := api.Class{Fields: []api.Field{field("mode", 0), field("kind", 0), field("data", 3)}}
	checkExpand(t, c, list(otherwise(when("mode == 1", hard("kind < 3")), soft("kind == 5"))),
		list(hard("mode == 1 => kind < 3"), soft("!(mode == 1) => kind == 5")), api.OK)
	checkExpand(t, c, list(each("i", "data", hard("data[i] < 9"))),
		list(hard("data[0] < 9"), hard("data[1] < 9"), hard("data[2] < 9")), api.OK)
}

// P11.5
func TestExpand(t *testing.T) {
	c := simple()
	checkExpand(t, c, nil, nil, api.OK)
	all := list(hard("a"), soft("b"), dist("a", api.Weight{Lo: 3, Hi: 4, Weight: 5, Each: true}), solve("a d[1]", "b f"), dist("d"), hard("a"), solve("c", "a"))
	checkExpand(t, c, all, all, api.OK)
	checkExpand(t, c, list(when("a"), otherwise(when("a", when("b")), when("c")), each("i", "d"), each("i", "d", each("j", "f", when("i")))), nil, api.OK)
	checkExpand(t, c, list(hard("a"), when("b", soft("c"), hard("a")), dist("a")), list(hard("a"), soft("b => c"), hard("b => a"), dist("a")), api.OK)
	checkExpand(t, c, list(otherwise(when("a"), hard("b"), soft("c"))), list(hard("!a => b"), soft("!a => c")), api.OK)
	// Conditions of conditions.
	checkExpand(t, c, list(otherwise(when("a", otherwise(when("b", hard("1")), hard("2"))), otherwise(when("c", hard("3")), hard("4")))),
		list(hard("a && b => 1"), hard("a && !b => 2"), hard("!a && c => 3"), hard("!a && !c => 4")), api.OK)
	checkExpand(t, c, list(when("a", when("b && c", when("c", otherwise(when("d@0"), soft("e@0")))))),
		list(soft("a && (b && c) && c && !d@0 => e@0")), api.OK)
	checkExpand(t, c, list(when("a", hard("b => c"))), list(hard("a => (b => c)")), api.OK)
}

// P11.5
func TestExpandEach(t *testing.T) {
	c := simple()
	checkExpand(t, c, list(each("i", "d", hard("i < d[i]"), soft("a"))),
		list(hard("0 < d[0]"), soft("a"), hard("1 < d[1]"), soft("a"), hard("2 < d[2]"), soft("a")), api.OK)
	checkExpand(t, c, list(each("i", "e", hard("sum(d) + d@1 + d[i + i] + a"))), list(hard("sum(d) + d@1 + d[0 + 0] + a")), api.OK)
	checkExpand(t, c, list(each("i", "e", each("j", "d", hard("i * 8 + j"), when("j == i", hard("f[j]"))))),
		list(hard("0 * 8 + 0"), hard("0 == 0 => f[0]"), hard("0 * 8 + 1"), hard("1 == 0 => f[1]"), hard("0 * 8 + 2"), hard("2 == 0 => f[2]")), api.OK)
	checkExpand(t, c, list(when("a", each("i", "d", otherwise(when("i", hard("d[i]")), soft("i"))))),
		list(hard("a && 0 => d[0]"), soft("a && !0 => 0"), hard("a && 1 => d[1]"), soft("a && !1 => 1"), hard("a && 2 => d[2]"), soft("a && !2 => 2")), api.OK)
	// One index after the other, with the same name.
	checkExpand(t, c, list(each("i", "e", hard("i + 1")), each("i", "d", hard("i + 2"))), list(hard("0 + 1"), hard("0 + 2"), hard("1 + 2"), hard("2 + 2")), api.OK)
	var want []api.Item
	for _, array := range []string{"d", "e", "f"} {
		for k := range sizesOf(c)[array] {
			for j := range 8 {
				want = append(want, hard(fmt.Sprintf("%s[%d] < f[%d]", array, k, j)))
			}
		}
		checkExpand(t, c, list(each("k", array, each("j", "f", hard(array+"[k] < f[j]")))), want, api.OK)
		want = nil
	}
}

// P11.5: an expansion has at most 400 constraints.
func TestExpandLimit(t *testing.T) {
	fields := func(sizes ...int) api.Class {
		c := api.Class{}
		for i, size := range sizes {
			c.Fields = append(c.Fields, field(fmt.Sprintf("x%d", i), size))
		}
		return c
	}
	fives := each("i", "x0", each("j", "x1", each("k", "x2", hard("i * 100 + j * 10 + k"))))
	for _, more := range []struct {
		c     api.Class
		count int
	}{{fields(8, 8, 6), 384}, {fields(8, 7, 7), 392}, {fields(8, 8, 7), 448}, {fields(8, 8, 8), 512}, {fields(5, 8, 8), 320}} {
		for _, rest := range []int{0, 8, 9, 16, 17, 60} {
			l := append(slices.Repeat(list(soft("0")), rest), fives)
			want, wantErr := modelExpand(l, more.c)
			if (more.count+rest > 400) != (wantErr == api.ErrLimit) {
				t.Fatalf("%d and %d constraints have the error %d", more.count, rest, wantErr)
			}
			checkExpand(t, more.c, l, want, wantErr)
		}
	}
	inner := slices.Repeat(list(hard("i")), 50)
	for extra, err := range map[int]api.Errno{0: api.OK, 1: api.ErrLimit} {
		l := append(slices.Repeat(list(hard("0")), extra), each("i", "x0", inner...))
		got, gotErr := item.Expand(l, fields(8))
		if gotErr != err || err == api.OK && len(got) != 400 || err != api.OK && len(got) > 0 {
			t.Errorf("Expand to %d constraints returns %d of them, and %d", 400+extra, len(got), gotErr)
		}
		// Both branches count.
		l = append(slices.Repeat(list(hard("0")), extra), each("i", "x0", otherwise(when("i", inner[:25]...), inner[:25]...)))
		if got, gotErr := item.Expand(l, fields(8)); gotErr != err || err == api.OK && len(got) != 400 {
			t.Errorf("Expand to %d constraints in branches returns %d of them, and %d", 400+extra, len(got), gotErr)
		}
	}
}

// P11.5: arrays of sizes that no valid class has.
func TestExpandHugeArrays(t *testing.T) {
	for _, size := range []int{399, 400, 401, 402, 1 << 16, 1 << 32, 1 << 61, math.MaxInt} {
		c := api.Class{Fields: []api.Field{field("d", size), field("e", 2), field("g", math.MaxInt)}}
		got, err := item.Expand(list(each("i", "d", hard("i == 7"))), c)
		if size <= 400 && (err != api.OK || len(got) != size || !equal(got[size-1:], list(hard(fmt.Sprintf("%d == 7", size-1))))) {
			t.Errorf("Expand for %d indices returns %d constraints, and %d", size, len(got), err)
		}
		if size > 400 && (err != api.ErrLimit || len(got) > 0) {
			t.Errorf("Expand for %d indices returns %d constraints, and %d", size, len(got), err)
		}
		if got, err := item.Expand(slices.Repeat(list(each("i", "d", slices.Repeat(list(hard("1")), 7)...)), 8), c); len(got) > 0 || err != api.ErrLimit {
			t.Errorf("Expand for 8 times 7 times %d indices returns %d constraints, and %d", size, len(got), err)
		}
		// Nothing for each of many indices is nothing, and so is nothing for each of them for each of many others.
		nothing := each("i", "d", each("j", "g", when("i", when("j"))), when("i"))
		checkExpand(t, c, list(nothing, hard("1"), each("k", "e", hard("k"), nothing)), list(hard("1"), hard("0"), hard("1")), api.OK)
		checkExpand(t, c, list(each("i", "g", each("j", "d", each("k", "g", hard("1"))))), nil, api.ErrLimit)
		checkExpand(t, c, list(each("i", "g", each("j", "g", each("k", "g", each("l", "g", slices.Repeat(list(hard("1")), 60)...))))), nil, api.ErrLimit)
	}
}

// P11.5: an expression that becomes too deep or too large.
func TestExpandInvalid(t *testing.T) {
	c := simple()
	hardOf := func(kind int, e api.Expr) api.Item { return api.Item{Kind: kind, Expr: e} }
	for _, kind := range []int{api.ItHard, api.ItSoft} {
		checkExpand(t, c, list(hardOf(kind, deep(23, ex("a")))), list(hardOf(kind, deep(23, ex("a")))), api.OK)
		checkExpand(t, c, list(when("b", hardOf(kind, deep(22, ex("a"))))), list(hardOf(kind, node(api.ExImplies, ex("b"), deep(22, ex("a"))))), api.OK)
		checkExpand(t, c, list(hard("a"), when("b", hardOf(kind, deep(23, ex("a"))))), nil, api.ErrLimit)
		checkExpand(t, c, list(otherwise(when("b"), hardOf(kind, deep(23, ex("a")))), hard("a")), nil, api.ErrLimit)
		condition := api.Item{Kind: api.ItIf, Expr: deep(22, ex("a"))}
		// A condition that is used nowhere does not matter, however deep it would be.
		checkExpand(t, c, list(hard("a"), when("b", condition), otherwise(condition)), list(hard("a")), api.OK)
		checkExpand(t, c, list(otherwise(condition, hardOf(kind, ex("b")))), nil, api.ErrLimit)
		condition.Items = list(hardOf(kind, ex("b")))
		checkExpand(t, c, list(condition), list(hardOf(kind, node(api.ExImplies, deep(22, ex("a")), ex("b")))), api.OK)
		checkExpand(t, c, list(when("b", condition)), nil, api.ErrLimit)
		checkExpand(t, c, list(each("i", "e", condition)), list(hardOf(kind, node(api.ExImplies, deep(22, ex("a")), ex("b")))), api.OK)
	}
	for size, err := range map[int]api.Errno{199: api.OK, 200: api.ErrLimit} {
		// An expression of 2 * size - 1 nodes, which is 200 or 199 nodes and its condition, or one node too large.
		half := balanced(size)
		want := list(api.Item{Kind: api.ItHard, Expr: node(api.ExImplies, half, ex("a"))})
		if err != api.OK {
			want = nil
		}
		checkExpand(t, c, list(api.Item{Kind: api.ItIf, Expr: half, Items: list(hard("a"))}), want, err)
	}
}

// balanced returns a sum of so many variables.
func balanced(count int) api.Expr {
	if count == 1 {
		return ex("a")
	}
	return node(api.ExAdd, balanced(count/2), balanced(count-count/2))
}

// P11.5, C11.3
func TestExpandOfRandomConstraints(t *testing.T) {
	m := newMaker(6)
	for range 1000 {
		c := m.class()
		l := m.items(4, c, nil)
		want, err := modelExpand(l, c)
		checkExpand(t, c, l, want, err)
		wrong := m.spoiled(c)
		want, err = modelExpand(wrong, c)
		checkExpand(t, c, wrong, want, err)
	}
}

// signals returns values for all variables of a class.
func (m maker) signals(c api.Class) []api.Signal {
	var env []api.Signal
	for _, name := range slices.Sorted(func(yield func(string) bool) {
		for name := range scopeOf(c).variables {
			if !yield(name) {
				return
			}
		}
	}) {
		env = append(env, api.Signal{Name: name, Value: pick(m, 0, 0, 1, 1, 2, 3, 7, 255)})
	}
	return env
}

// C11.1
func TestExpandedHold(t *testing.T) {
	m := newMaker(7)
	outcomes := map[bool]int{}
	for range 1500 {
		c := m.class()
		l := m.items(4, c, nil)
		made, err := item.Expand(l, c)
		if err != api.OK {
			continue
		}
		for range 5 {
			env := m.signals(c)
			want := holds(l, sizesOf(c), env)
			got := true
			for _, one := range made {
				got = got && (one.Kind != api.ItHard || value(one.Expr, env) != 0)
			}
			if got != want {
				t.Errorf("%s hold: %t; but what Expand returns: %t, for %v", show(l), want, got, env)
			}
			outcomes[want]++
		}
	}
	if outcomes[true] < 1000 || outcomes[false] < 1000 {
		t.Errorf("the outcomes are %v", outcomes)
	}
}
