package item_test

import (
	"math"
	"testing"

	"testbench/api"
	"testbench/expr"
	"testbench/item"
)

func checkScalar(t *testing.T, c api.Class, e, want api.Expr, wantErr api.Errno) {
	t.Helper()
	crowded, crowdedClass := roomy(e), roomy(c)
	got, err := item.Scalar(crowded, crowdedClass)
	if !equal(got, want) || err != wantErr {
		t.Errorf("Scalar(%s, %s) = %s, %d; want %s, %d", show(e), show(c), show(got), err, show(want), wantErr)
	}
	checkNew(t, got, crowded)
	checkRoom(t, crowded, e)
	checkRoom(t, crowdedClass, c)
}

// P11.6
func TestScalar(t *testing.T) {
	for text, want := range map[string]string{
		"a":                          "a",
		"7":                          "7",
		"d@1":                        "d@1",
		"a + b * c < d@2":            "a + b * c < d@2",
		"sum(e)":                     "e@0",
		"sum(d)":                     "d@0 + d@1 + d@2",
		"sum(f)":                     "f@0 + f@1 + f@2 + f@3 + f@4 + f@5 + f@6 + f@7",
		"1 + sum(d)":                 "1 + (d@0 + d@1 + d@2)",
		"d[0]":                       "d@0",
		"d[2]":                       "d@2",
		"d[3]":                       "0",
		"d[65535]":                   "0",
		"e[1]":                       "0",
		"f[7] + f[8]":                "f@7 + 0",
		"d[a]":                       "a == 0 ? d@0 : a == 1 ? d@1 : a == 2 ? d@2 : 0",
		"e[a]":                       "a == 0 ? e@0 : 0",
		"d[0 + 1]":                   "0 + 1 == 0 ? d@0 : 0 + 1 == 1 ? d@1 : 0 + 1 == 2 ? d@2 : 0",
		"e[a == b]":                  "(a == b) == 0 ? e@0 : 0",
		"e[sum(e)]":                  "e@0 == 0 ? e@0 : 0",
		"e[sum(d)]":                  "d@0 + d@1 + d@2 == 0 ? e@0 : 0",
		"e[d[1]]":                    "d@1 == 0 ? e@0 : 0",
		"d[d[7]]":                    "d@0",
		"d[d[d[9]]]":                 "d@0 == 0 ? d@0 : d@0 == 1 ? d@1 : d@0 == 2 ? d@2 : 0",
		"e[e[a]]":                    "(a == 0 ? e@0 : 0) == 0 ? e@0 : 0",
		"a inside { e[b] .. sum(e)}": "a inside { b == 0 ? e@0 : 0 .. e@0 }",
		"a ? e[0] : e[1]":            "a ? e@0 : 0",
	} {
		checkScalar(t, simple(), ex(text), ex(want), api.OK)
	}
}

// P11.6
func TestScalarErrors(t *testing.T) {
	for err, e := range map[api.Errno]api.Expr{
		api.ErrArg:   node(api.ExNot),
		api.ErrName:  node(api.ExAdd, ex("d"), api.Expr{Op: api.ExVar, Name: "A"}),
		api.ErrLimit: node(api.ExAdd, ex("d"), deep(23, ex("z"))),
	} {
		checkScalar(t, simple(), e, api.Expr{}, err)
	}
	checkScalar(t, simple(), api.Expr{}, api.Expr{}, api.ErrArg)
	for err, texts := range map[api.Errno][]string{
		api.ErrType: {"d", "a@0", "sum(a)", "b[0]", "b[z]", "d[d]", "a + d + z", "d[sum(a)] + z"},
		api.ErrName: {"z", "i", "d@3", "z@0", "sum(z)", "z[0]", "z[d]", "d[z]", "a + z + d", "d[d[z]] + d"},
	} {
		for _, text := range texts {
			checkScalar(t, simple(), ex(text), api.Expr{}, err)
		}
	}
	checkScalar(t, api.Class{}, ex("a"), api.Expr{}, api.ErrName)
	// The error of a name goes ahead of the limit, in which only the result is measured.
	checkScalar(t, simple(), ex("f[f[f[f[a]]]] + z"), api.Expr{}, api.ErrName)
	checkScalar(t, simple(), ex("f[f[f[f[a]]]] + d"), api.Expr{}, api.ErrType)
}

// P11.6: a result that is too large or too deep, some of them beyond all memory.
func TestScalarLimit(t *testing.T) {
	c := simple()
	nestedElements := func(array string, count int, e api.Expr) api.Expr {
		for range count {
			e = api.Expr{Op: api.ExElem, Name: array, Args: []api.Expr{e}}
		}
		return e
	}
	for _, array := range []string{"d", "e", "f"} {
		for count := range 24 {
			for _, index := range []string{"a", "1", "9", "sum(d)"} {
				e := nestedElements(array, count, ex(index))
				want, err := modelScalar(e, c)
				checkScalar(t, c, e, want, err)
			}
		}
		if _, err := item.Scalar(nestedElements(array, 20, ex("a")), c); err != api.ErrLimit {
			t.Errorf("Scalar of 20 levels of elements of %s returns %d", array, err)
		}
	}
	// Depths of 24 and 25: an element is below its array's chain of ifs.
	checkScalar(t, c, deep(20, ex("e[a]")), deep(20, ex("a == 0 ? e@0 : 0")), api.OK)
	checkScalar(t, c, deep(21, ex("e[a]")), deep(21, ex("a == 0 ? e@0 : 0")), api.OK)
	checkScalar(t, c, deep(22, ex("e[a]")), api.Expr{}, api.ErrLimit)
	checkScalar(t, c, deep(16, ex("sum(f)")), deep(16, ex("f@0 + f@1 + f@2 + f@3 + f@4 + f@5 + f@6 + f@7")), api.OK)
	checkScalar(t, c, deep(17, ex("sum(f)")), api.Expr{}, api.ErrLimit)
	// 400 and 401 nodes.
	for _, count := range []int{150, 173, 182, 183, 184, 190, 199, 200} {
		e := node(api.ExAdd, balanced(count), ex("f[a + 1] + sum(f)"))
		want, err := modelScalar(e, c)
		checkScalar(t, c, e, want, err)
		for range 2 {
			e = node(api.ExNot, e)
			want, err = modelScalar(e, c)
			checkScalar(t, c, e, want, err)
		}
	}
}

// P11.6: arrays of sizes that no valid class has have elements without valid names.
func TestScalarHugeArrays(t *testing.T) {
	for _, size := range []int{8, 9, 10, 16, 1 << 16, 1 << 32, math.MaxInt} {
		c := api.Class{Fields: []api.Field{field("d", size), field("a", 0)}}
		err := api.OK
		if size > 8 {
			err = api.ErrLimit
		}
		for text, want := range map[string]string{
			"sum(d)": "d@0 + d@1 + d@2 + d@3 + d@4 + d@5 + d@6 + d@7",
			"d[a]":   "a == 0 ? d@0 : a == 1 ? d@1 : a == 2 ? d@2 : a == 3 ? d@3 : a == 4 ? d@4 : a == 5 ? d@5 : a == 6 ? d@6 : a == 7 ? d@7 : 0",
			"d[8]":   "0",
		} {
			wanted := ex(want)
			if err != api.OK {
				wanted = api.Expr{}
			}
			checkScalar(t, c, ex(text), wanted, err)
		}
		checkScalar(t, c, ex("d[7] + d[0] + d@3"), ex("d@7 + d@0 + d@3"), api.OK)
	}
	c := api.Class{Fields: []api.Field{field("d", 20)}}
	checkScalar(t, c, ex("d[20] + d[65535]"), ex("0 + 0"), api.OK)
	checkScalar(t, c, ex("d[19]"), api.Expr{}, api.ErrLimit)
}

// P11.6, C11.2
func TestScalarOfRandomExpressions(t *testing.T) {
	m := newMaker(8)
	outcomes := map[api.Errno]int{}
	for range 5000 {
		c := m.class()
		e := m.expr(pick(m, 2, 3, 4, 5, 6, 7), c, nil)
		if m.Intn(5) == 0 {
			e = m.expr(5, c, []string{"i", "z", "d", "a@0"})
		}
		want, err := modelScalar(e, c)
		checkScalar(t, c, e, want, err)
		outcomes[err]++
		if err != api.OK {
			continue
		}
		if len(expr.Arrays(want)) > 0 {
			t.Errorf("%s has arrays", show(want))
		}
		for range 3 {
			env := m.signals(c)
			made, _ := item.Scalar(e, c)
			if value(made, env) != value(e, env) {
				t.Errorf("the value of %s is %d, and that of %s, which Scalar returns, is %d, for %v", show(e), value(e, env), show(made), value(made, env), env)
			}
		}
	}
	for _, err := range []api.Errno{api.OK, api.ErrLimit, api.ErrName, api.ErrType} {
		if outcomes[err] < 50 {
			t.Errorf("%d expressions have the error %d", outcomes[err], err)
		}
	}
}
