package item_test

import (
	"fmt"
	"math"
	"slices"
	"strings"
	"testing"

	"testbench/api"
	"testbench/item"
)

// wrongNames are neither names nor element names.
func wrongNames() []string {
	return append(strings.Fields(keywords), "", " ", "A", "_a", "1a", "a ", "a.b", "é", "\xff", longName+"G",
		"a[8]", "a[-1]", "a[00]", "a[", "a[]", "a[0", "a[0]]", "a[0] ", "a[b]", "a@0", "A[0]", "in[0]", longName+"G[0]", "[0]")
}

func checkValid(t *testing.T, want api.Errno, l ...api.Item) {
	t.Helper()
	crowded := roomy(l)
	if got := item.Valid(crowded); got != want {
		t.Errorf("Valid(%s) = %d; want %d", show(l), got, want)
	}
	checkRoom(t, crowded, l)
	// Wherever there is an error, it is that of Check, Expand and Names, too.
	if err := item.Check(crowded, simple()); want != api.OK && err != want {
		t.Errorf("Check(%s) = %d; want %d", show(l), err, want)
	}
	if list, err := item.Expand(crowded, simple()); want != api.OK && (len(list) > 0 || err != want) {
		t.Errorf("Expand(%s) = %s, %d; want %d", show(l), show(list), err, want)
	}
}

// one returns a valid constraint of each kind, by the kinds.
func one() map[int]api.Item {
	return map[int]api.Item{api.ItHard: hard("a"), api.ItSoft: soft("a"), api.ItDist: dist("a"), api.ItIf: when("a"), api.ItEach: each("i", "d"), api.ItSolve: solve("a", "b")}
}

// P11.1
func TestValid(t *testing.T) {
	checkValid(t, api.OK)
	for _, right := range one() {
		checkValid(t, api.OK, right)
		checkValid(t, api.OK, right, right)
	}
	checkValid(t, api.OK, when("a < 3", hard("b"), soft("b")), otherwise(when("a"), hard("x")), otherwise(when("a", soft("y")), each("i", "d", hard("d[i] == i"))))
	checkValid(t, api.OK, dist("d[7]"), dist(longName+"[0]"), solve("x y[0] z", "a"), solve("a a", "a a[1]"), dist("zz"))
	// Names of which a class knows nothing are valid, and so are indices that are bound twice.
	checkValid(t, api.OK, hard("zz + sum(zz) + zz[zz@3]"), each("i", "i", each("i", "i")), each(longName, longName))
}

// P11.1
func TestValidKinds(t *testing.T) {
	for _, kind := range []int{0, -1, 7, 8, math.MinInt, math.MaxInt, 1 << 32, 1<<32 + 1} {
		checkValid(t, api.ErrArg, api.Item{Kind: kind})
		checkValid(t, api.ErrArg, api.Item{Kind: kind, Expr: ex("a")})
		checkValid(t, api.ErrArg, api.Item{Kind: kind, Name: "a", Index: "i"})
		checkValid(t, api.ErrArg, when("a", api.Item{Kind: kind}))
		checkValid(t, api.ErrArg, otherwise(when("a", hard("a")), hard("a"), api.Item{Kind: kind}))
		checkValid(t, api.ErrArg, each("i", "d", api.Item{Kind: kind}))
	}
}

// P11.1: every kind with every field, whether it uses it or not.
func TestValidFields(t *testing.T) {
	more := map[string]func(item *api.Item){
		"Expr":    func(item *api.Item) { item.Expr = ex("b") },
		"Name":    func(item *api.Item) { item.Name = "x" },
		"Index":   func(item *api.Item) { item.Index = "x" },
		"Weights": func(item *api.Item) { item.Weights = []api.Weight{{}} },
		"Items":   func(item *api.Item) { item.Items = list(hard("a")) },
		"Else":    func(item *api.Item) { item.Else = list(hard("a")) },
		"Before":  func(item *api.Item) { item.Before = []string{"b"} },
		"After":   func(item *api.Item) { item.After = []string{"b"} },
	}
	for kind, right := range one() {
		for name, change := range more {
			want := api.ErrArg
			if slices.Contains(strings.Fields(usedFields[kind]), name) {
				want = api.OK
			}
			changed := right
			change(&changed)
			checkValid(t, want, changed)
		}
	}
}

// P11.1: the zero expression has no operands, no number and no name.
func TestValidZeroExpression(t *testing.T) {
	for _, e := range []api.Expr{{Op: -1}, {N: 1}, {Name: "a"}, {Args: make([]api.Expr, 1)}, {Op: api.ExConst}} {
		for _, kind := range []int{api.ItDist, api.ItEach, api.ItSolve} {
			wrong := one()[kind]
			wrong.Expr = e
			checkValid(t, api.ErrArg, wrong)
		}
	}
	// Empty lists and nil are equal.
	for _, right := range one() {
		right.Expr.Args = append([]api.Expr{}, right.Expr.Args...)
		right.Weights, right.Items, right.Else = append([]api.Weight{}, right.Weights...), append(list(), right.Items...), append(list(), right.Else...)
		right.Before, right.After = append([]string{}, right.Before...), append([]string{}, right.After...)
		checkValid(t, api.OK, right)
	}
}

// within returns the constraint in so many others, which are if and each by turns.
func within(nesting int, inner api.Item) api.Item {
	for k := range nesting {
		switch k % 3 {
		case 0:
			inner = when("a", inner)
		case 1:
			inner = each(fmt.Sprintf("i%d", k), "d", inner)
		case 2:
			inner = otherwise(when("a"), inner)
		}
	}
	return inner
}

// P11.1
func TestValidNesting(t *testing.T) {
	for kind, right := range one() {
		for nesting := range 10 {
			want := api.OK
			if nesting > 4 || nesting > 0 && (kind == api.ItDist || kind == api.ItSolve) {
				want = api.ErrArg
			}
			checkValid(t, want, within(nesting, right))
			checkValid(t, want, hard("a"), within(nesting, right), hard("a"))
		}
	}
	checkValid(t, api.ErrArg, each("i", "d", dist("a")))
	checkValid(t, api.ErrArg, otherwise(when("a"), solve("a", "b")))
	for _, nest := range []func(inner ...api.Item) api.Item{
		func(inner ...api.Item) api.Item { return when("a", inner...) },
		func(inner ...api.Item) api.Item { return each("i", "d", inner...) },
		func(inner ...api.Item) api.Item { return otherwise(when("a"), inner...) },
	} {
		checkValid(t, api.OK, nest(nest(nest(nest(hard("a"), soft("b"), when("c"))))))
		checkValid(t, api.ErrArg, nest(nest(nest(nest(nest(hard("a")))))))
		checkValid(t, api.OK, nest(nest(nest(nest()))), nest(nest(nest(nest(when("a"))))))
	}
}

// P11.1
func TestValidWeights(t *testing.T) {
	weights := func(n int) []api.Weight { return make([]api.Weight, n) }
	for n := range 40 {
		want := api.OK
		switch {
		case n == 0:
			want = api.ErrArg
		case n > 16:
			want = api.ErrLimit
		}
		checkValid(t, want, api.Item{Kind: api.ItDist, Name: "a", Weights: weights(n)})
	}
	numbers := []int{math.MinInt, -65536, -1, 0, 1, 2, 999, 1000, 1001, 65534, 65535, 65536, 1 << 32, math.MaxInt}
	for _, lo := range numbers {
		for _, hi := range numbers {
			for _, weight := range numbers {
				want := api.ErrArg
				if lo >= 0 && hi >= lo && hi < 65536 && weight >= 0 && weight < 1001 {
					want = api.OK
				}
				right := api.Weight{Lo: 1, Hi: 2, Weight: 3}
				checkedWeights := []api.Weight{right, {Lo: lo, Hi: hi, Weight: weight, Each: true}, right}
				if got := item.Valid(list(api.Item{Kind: api.ItDist, Name: "a", Weights: checkedWeights})); got != want {
					t.Errorf("Valid of a distribution by %v is %d; want %d", checkedWeights, got, want)
				}
			}
		}
	}
}

// P11.1
func TestValidNames(t *testing.T) {
	for _, name := range []string{"a", "z9_Z", longName, "iff", "sum", "ones"} {
		checkValid(t, api.OK, dist(name), each(name, "d"), each("i", name), solve(name, "b"), solve("b", name))
		for k := range 8 {
			indexed := fmt.Sprintf("%s[%d]", name, k)
			checkValid(t, api.OK, dist(indexed), api.Item{Kind: api.ItSolve, Before: []string{indexed}, After: []string{indexed}})
			// Only a variable has the name of an element.
			checkValid(t, api.ErrName, each("i", indexed))
			checkValid(t, api.ErrName, each(indexed, "d"))
		}
	}
	for _, name := range wrongNames() {
		checkValid(t, api.ErrName, dist(name))
		checkValid(t, api.ErrName, each(name, "d"))
		checkValid(t, api.ErrName, each("i", name))
		for _, names := range [][]string{{name}, {"a", name}, {name, "a[0]"}} {
			checkValid(t, api.ErrName, api.Item{Kind: api.ItSolve, Before: names, After: []string{"b"}})
			checkValid(t, api.ErrName, api.Item{Kind: api.ItSolve, Before: []string{"b"}, After: names})
		}
	}
	checkValid(t, api.ErrArg, solve("", "a"))
	checkValid(t, api.ErrArg, solve("a", ""))
	checkValid(t, api.ErrArg, solve("", ""))
}

// P11.1
func TestValidExpressions(t *testing.T) {
	for err, e := range map[api.Errno]api.Expr{
		api.ErrArg:   node(api.ExNot),
		api.ErrName:  node(api.ExNot, api.Expr{Op: api.ExVar, Name: "A"}),
		api.ErrLimit: deep(24, ex("a")),
		api.OK:       deep(23, ex("a")),
	} {
		checkValid(t, err, api.Item{Kind: api.ItHard, Expr: e})
		checkValid(t, err, api.Item{Kind: api.ItSoft, Expr: e})
		checkValid(t, err, api.Item{Kind: api.ItIf, Expr: e})
		checkValid(t, err, when("a", api.Item{Kind: api.ItIf, Expr: e}))
		checkValid(t, err, each("i", "d", otherwise(when("a"), api.Item{Kind: api.ItHard, Expr: e})))
	}
	checkValid(t, api.ErrArg, api.Item{Kind: api.ItHard})
	checkValid(t, api.ErrArg, api.Item{Kind: api.ItSoft})
	checkValid(t, api.ErrArg, api.Item{Kind: api.ItIf, Items: list(hard("a"))})
}

// P11.1: the errors of one constraint have an order.
func TestValidOrderInConstraint(t *testing.T) {
	many := make([]api.Weight, 17)
	many[3].Lo = -1
	checkValid(t, api.ErrLimit, api.Item{Kind: api.ItDist, Name: "A", Weights: many})
	checkValid(t, api.ErrArg, api.Item{Kind: api.ItDist, Name: "A", Weights: many, Index: "i"})
	checkValid(t, api.ErrArg, when("a", api.Item{Kind: api.ItDist, Name: "a", Weights: many}))
	checkValid(t, api.ErrArg, api.Item{Kind: api.ItDist, Name: "A"})
	checkValid(t, api.ErrArg, api.Item{Kind: api.ItDist, Name: "A", Weights: many[3:4]})
	checkValid(t, api.ErrArg, solve("A", ""))
	checkValid(t, api.ErrArg, api.Item{Kind: api.ItHard, Expr: ex("a"), Name: "A"})
	checkValid(t, api.ErrArg, api.Item{Kind: api.ItHard, Expr: deep(24, ex("a")), Name: "A"})
	checkValid(t, api.ErrArg, within(5, api.Item{Kind: api.ItHard, Expr: deep(24, ex("a"))}))
	checkValid(t, api.ErrArg, within(5, each("A", "A")))
	checkValid(t, api.ErrArg, api.Item{Kind: api.ItEach, Name: "A", Else: list(hard("a"))})
}

// P11.1: of two constraints with errors the first one counts, in the order that the chapter defines.
func TestValidOrderOfConstraints(t *testing.T) {
	limit, name, wrong := api.Item{Kind: api.ItHard, Expr: deep(24, ex("a"))}, each("A", "d"), api.Item{}
	for err, first := range map[api.Errno]api.Item{api.ErrLimit: limit, api.ErrName: name, api.ErrArg: wrong} {
		for _, second := range list(limit, name, wrong) {
			checkValid(t, err, hard("a"), first, second)
			checkValid(t, err, when("a", first, second))
			checkValid(t, err, when("a", first), second)
			checkValid(t, err, otherwise(when("a"), first), second)
			checkValid(t, err, otherwise(when("a", first), second))
			checkValid(t, err, each("i", "d", when("a", hard("b"), first)), second)
			around := first
			around.Items = append(around.Items, second)
			if first.Kind == api.ItEach {
				checkValid(t, err, around)
			}
		}
	}
	checkValid(t, api.ErrLimit, api.Item{Kind: api.ItIf, Expr: deep(24, ex("a")), Items: list(wrong), Else: list(wrong)})
}

// P11.1
func TestValidLimit(t *testing.T) {
	checkValid(t, api.OK, slices.Repeat(list(hard("a")), 64)...)
	checkValid(t, api.ErrLimit, slices.Repeat(list(hard("a")), 65)...)
	// The limit counts constraints at any depth, and goes ahead of all other errors.
	for _, inner := range list(hard("a"), api.Item{}, each("A", "A")) {
		want := item.Valid(list(inner))
		for _, around := range list(when("a"), each("i", "d")) {
			around.Items = slices.Repeat(list(inner), 63)
			checkValid(t, want, around)
			checkValid(t, api.ErrLimit, around, inner)
			checkValid(t, api.ErrLimit, api.Item{}, around)
			checkValid(t, api.ErrLimit, otherwise(around, inner))
			checkValid(t, api.ErrLimit, each("i", "d", around))
		}
		checkValid(t, want, otherwise(when("a", slices.Repeat(list(inner), 31)...), slices.Repeat(list(inner), 32)...))
		checkValid(t, api.ErrLimit, otherwise(when("a", slices.Repeat(list(inner), 32)...), slices.Repeat(list(inner), 32)...))
	}
	// So do those that a constraint contains although its kind cannot.
	checkValid(t, api.ErrLimit, api.Item{Kind: api.ItHard, Expr: ex("a"), Else: slices.Repeat(list(hard("a")), 64)})
	checkValid(t, api.ErrArg, api.Item{Kind: api.ItHard, Expr: ex("a"), Else: slices.Repeat(list(hard("a")), 63)})
}

// P11.1
func TestValidOfRandomConstraints(t *testing.T) {
	m := newMaker(2)
	for range 1500 {
		c := m.class()
		l := m.spoiled(c)
		checkValid(t, modelValid(l), l...)
		right := m.items(4, c, nil)
		checkValid(t, modelValid(right), right...)
	}
}
