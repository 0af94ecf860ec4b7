package class_test

import (
	"fmt"
	"math"
	"testing"

	"testbench/api"
	"testbench/class"
)

// fields returns random fields of two bits with the names.
func fields(names ...string) []api.Field {
	var list []api.Field
	for _, name := range names {
		list = append(list, api.Field{Name: name, Width: 2, Mode: api.MoRand})
	}
	return list
}

// blocks returns empty blocks with the names.
func blocks(names ...string) []api.Block {
	var list []api.Block
	for _, name := range names {
		list = append(list, api.Block{Name: name})
	}
	return list
}

// numbered returns so many names that begin with a letter.
func numbered(letter string, count int) []string {
	var list []string
	for i := range count {
		list = append(list, fmt.Sprintf("%s%d", letter, i))
	}
	return list
}

// full returns a valid class in which every list that a class can have has elements.
func full(name, parent string) api.Class {
	e := api.Expr{Op: api.ExAdd, Args: []api.Expr{{Op: api.ExVar, Name: "x"}, {Op: api.ExNot, Args: []api.Expr{{Op: api.ExConst, N: 3}}}}}
	inner := api.Item{Kind: api.ItSoft, Expr: e, Weights: []api.Weight{{Lo: 1}}, Before: []string{"x"}, After: []string{"y"}}
	outer := api.Item{Kind: api.ItIf, Expr: e, Name: "n", Index: "i", Weights: []api.Weight{{Lo: 1, Hi: 2, Weight: 3, Each: true}, {}}, Items: []api.Item{inner, inner}, Else: []api.Item{inner, {}}, Before: []string{"x", "y"}, After: []string{"z", ""}}
	return api.Class{
		Name:   name,
		Parent: parent,
		Fields: []api.Field{{Name: name + "_x", Width: 2, Size: 3, Mode: api.MoState, Init: 3}, {Name: name + "_y", Width: 8, Mode: api.MoCyclic}},
		Blocks: []api.Block{{Name: name + "_b", Items: []api.Item{outer, inner}}, {Name: "b", Items: []api.Item{outer}}, {Name: "c"}},
	}
}

func checkField(t *testing.T, f api.Field, want api.Errno) {
	t.Helper()
	if got := class.ValidField(f); got != want {
		t.Errorf("ValidField(%+v) = %d; want %d", f, got, want)
	}
}

// P10.1
func TestValidFieldNames(t *testing.T) {
	for _, name := range []string{"a", "z", "x1", "aZ", "a_", "zZ_09", longName, "sum", "ones", "i", "classes"} {
		checkField(t, api.Field{Name: name, Width: 1, Mode: api.MoRand}, api.OK)
		checkField(t, api.Field{Name: name}, api.ErrArg)
	}
	for _, name := range wrongNames() {
		checkField(t, api.Field{Name: name, Width: 1, Mode: api.MoRand}, api.ErrName)
		// The name is checked before everything else.
		checkField(t, api.Field{Name: name}, api.ErrName)
		checkField(t, api.Field{Name: name, Width: 9, Size: 9, Mode: 3, Init: 9}, api.ErrName)
	}
}

// P10.1
func TestValidFieldNumbers(t *testing.T) {
	for _, c := range []struct {
		width, size, mode, init int
		want                    api.Errno
	}{
		{1, 0, api.MoRand, 0, api.OK}, {8, 0, api.MoRand, 0, api.OK}, {8, 8, api.MoRand, 0, api.OK}, {1, 1, api.MoRand, 0, api.OK},
		{0, 0, api.MoRand, 0, api.ErrArg}, {9, 0, api.MoRand, 0, api.ErrArg}, {-1, 0, api.MoRand, 0, api.ErrArg}, {64, 0, api.MoState, 0, api.ErrArg},
		{1, 9, api.MoRand, 0, api.ErrArg}, {1, -1, api.MoRand, 0, api.ErrArg}, {1, -1, api.MoCyclic, 0, api.ErrArg},
		{1, 0, api.MoCyclic, 0, api.OK}, {8, 0, api.MoCyclic, 0, api.OK}, {8, 1, api.MoCyclic, 0, api.ErrArg}, {8, 8, api.MoCyclic, 0, api.ErrArg},
		{2, 0, 3, 0, api.ErrArg}, {2, 0, -1, 0, api.ErrArg}, {2, 1, 4, 0, api.ErrArg},
		{1, 0, api.MoState, 0, api.OK}, {1, 0, api.MoState, 1, api.OK}, {1, 0, api.MoState, 2, api.ErrArg}, {1, 0, api.MoState, -1, api.ErrArg},
		{8, 8, api.MoState, 255, api.OK}, {8, 8, api.MoState, 256, api.ErrArg}, {3, 4, api.MoState, 7, api.OK}, {3, 4, api.MoState, 8, api.ErrArg},
		{8, 0, api.MoRand, 1, api.ErrArg}, {8, 0, api.MoRand, -1, api.ErrArg}, {8, 0, api.MoCyclic, 1, api.ErrArg}, {8, 0, api.MoCyclic, -1, api.ErrArg},
	} {
		checkField(t, api.Field{Name: "a", Width: c.width, Size: c.size, Mode: c.mode, Init: c.init}, c.want)
	}
}

// P10.1: all fields with numbers at and beyond the borders.
func TestValidFieldOfAllNumbers(t *testing.T) {
	far := []int{math.MinInt, -1 << 32, 1 << 32, 1<<32 + 1, math.MaxInt}
	numbers := append([]int{-2, -1, 0, 1, 2, 3, 4, 5, 6, 7, 8, 9, 16, 63, 64, 65}, far...)
	inits := append([]int{-255, -1, 0, 1, 2, 3, 4, 7, 8, 15, 16, 31, 32, 63, 64, 127, 128, 255, 256, 65535}, far...)
	for _, width := range numbers {
		for _, size := range numbers {
			for _, mode := range append([]int{-1, 0, 1, 2, 3, 4}, far...) {
				for _, init := range inits {
					f := api.Field{Name: "a", Width: width, Size: size, Mode: mode, Init: init}
					checkField(t, f, modelField(f))
				}
			}
		}
	}
}

func checkValid(t *testing.T, c api.Class, want api.Errno) {
	t.Helper()
	crowded := roomy(c)
	if got := class.Valid(crowded); got != want {
		t.Errorf("Valid(%s) = %d; want %d", show(c), got, want)
	}
	checkRoom(t, crowded, c)
}

// P10.2
func TestValid(t *testing.T) {
	checkValid(t, api.Class{}, api.ErrName)
	checkValid(t, api.Class{Name: "p"}, api.OK)
	checkValid(t, api.Class{Name: "p", Parent: "q"}, api.OK)
	checkValid(t, api.Class{Name: "p", Parent: "p"}, api.OK)
	checkValid(t, full("p", "q"), api.OK)
	checkValid(t, api.Class{Name: longName, Parent: longName, Fields: fields(longName), Blocks: blocks(longName)}, api.OK)
	// A field, a block and the class may have the same name.
	checkValid(t, api.Class{Name: "p", Fields: fields("a", "b", "p"), Blocks: blocks("a", "p", "b")}, api.OK)
	for _, name := range wrongNames() {
		checkValid(t, api.Class{Name: name}, api.ErrName)
		checkValid(t, api.Class{Name: "p", Fields: fields("a", name)}, api.ErrName)
		checkValid(t, api.Class{Name: "p", Blocks: blocks("a", name)}, api.ErrName)
		if name != "" {
			checkValid(t, api.Class{Name: "p", Parent: name}, api.ErrName)
		}
	}
	for _, names := range [][]string{{"a", "a"}, {"a", "b", "a"}, {"a", "b", "c", "c"}, {longName, longName}} {
		checkValid(t, api.Class{Name: "p", Fields: fields(names...)}, api.ErrDuplicate)
		checkValid(t, api.Class{Name: "p", Blocks: blocks(names...)}, api.ErrDuplicate)
	}
	twice := []api.Field{{Name: "a", Width: 1, Mode: api.MoRand}, {Name: "a", Width: 2, Size: 3}}
	checkValid(t, api.Class{Name: "p", Fields: twice}, api.ErrDuplicate)
}

// P10.2
func TestValidLimits(t *testing.T) {
	for _, c := range []struct {
		fields, blocks int
		want           api.Errno
	}{
		{16, 0, api.OK}, {0, 16, api.OK}, {16, 16, api.OK}, {15, 16, api.OK},
		{17, 0, api.ErrLimit}, {0, 17, api.ErrLimit}, {16, 17, api.ErrLimit}, {17, 16, api.ErrLimit}, {5000, 0, api.ErrLimit}, {0, 5000, api.ErrLimit},
	} {
		checkValid(t, api.Class{Name: "p", Fields: fields(numbered("a", c.fields)...), Blocks: blocks(numbered("a", c.blocks)...)}, c.want)
	}
}

// P10.2: what is wrong with constraints does not matter.
func TestValidWithWrongConstraints(t *testing.T) {
	items := []api.Item{{}, {Kind: 99, Name: "A"}, {Kind: api.ItHard, Expr: api.Expr{Op: 99}}, {Kind: api.ItDist}, {Kind: api.ItSolve, Items: make([]api.Item, 3)}}
	items = append(items, make([]api.Item, 100)...)
	checkValid(t, api.Class{Name: "p", Blocks: []api.Block{{Name: "a", Items: items}}}, api.OK)
}

// P10.2: of two errors the first one counts.
func TestValidOrder(t *testing.T) {
	wrong := []struct {
		err   api.Errno
		spoil func(c *api.Class)
	}{
		{api.ErrName, func(c *api.Class) { c.Name = "A" }},
		{api.ErrName, func(c *api.Class) { c.Parent = "A" }},
		{api.ErrLimit, func(c *api.Class) { c.Fields = append(c.Fields, fields(numbered("f", 17)...)...) }},
		{api.ErrLimit, func(c *api.Class) { c.Blocks = append(c.Blocks, blocks(numbered("f", 17)...)...) }},
		{api.ErrArg, func(c *api.Class) { c.Fields = append(c.Fields, api.Field{Name: "a"}) }},
		{api.ErrName, func(c *api.Class) { c.Fields = append(c.Fields, api.Field{Name: "A"}) }},
		{api.ErrArg, func(c *api.Class) { c.Fields = append(c.Fields, api.Field{Name: "c"}) }},
		{api.ErrName, func(c *api.Class) { c.Blocks = append(c.Blocks, api.Block{Name: "A"}) }},
		{api.ErrDuplicate, func(c *api.Class) { c.Fields = append(c.Fields, fields("d", "d")...) }},
		{api.ErrDuplicate, func(c *api.Class) { c.Blocks = append(c.Blocks, blocks("d", "d")...) }},
	}
	for i, first := range wrong {
		for _, second := range wrong[i:] {
			c := api.Class{Name: "p"}
			first.spoil(&c)
			second.spoil(&c)
			checkValid(t, c, first.err)
			if got := modelValid(c); got != first.err {
				t.Errorf("the model's error for %s is %d", show(c), got)
			}
		}
	}
}

// P10.2
func TestValidOfRandomClasses(t *testing.T) {
	for _, src := range newMaker(2).sources(1000) {
		for _, c := range src {
			checkValid(t, c, modelValid(c))
		}
	}
}

func checkVars(t *testing.T, c api.Class, want ...api.Var) {
	t.Helper()
	crowded := roomy(c)
	if got := class.Vars(crowded); !equal(got, want) {
		t.Errorf("Vars(%s) = %s; want %s", show(c), show(got), show(want))
	}
	checkRoom(t, crowded, c)
}

// P10.6
func TestVars(t *testing.T) {
	checkVars(t, api.Class{Name: "p"})
	checkVars(t, api.Class{Name: "p", Blocks: blocks("b")})
	x := api.Field{Name: "x", Width: 3, Mode: api.MoRand}
	d := api.Field{Name: "d", Width: 2, Size: 2, Mode: api.MoState, Init: 3}
	one := api.Field{Name: "one", Width: 8, Size: 1, Mode: api.MoRand}
	y := api.Field{Name: "y", Width: 1, Mode: api.MoCyclic}
	s := api.Field{Name: "s", Width: 8, Mode: api.MoState, Init: 200}
	varX, varY, varS := api.Var{Name: "x", Width: 3, Mode: api.MoRand}, api.Var{Name: "y", Width: 1, Mode: api.MoCyclic}, api.Var{Name: "s", Width: 8, Mode: api.MoState, Value: 200}
	d0, d1 := api.Var{Name: "d[0]", Width: 2, Mode: api.MoState, Value: 3}, api.Var{Name: "d[1]", Width: 2, Mode: api.MoState, Value: 3}
	checkVars(t, api.Class{Name: "p", Fields: []api.Field{x, d}}, varX, d0, d1)
	checkVars(t, api.Class{Name: "p", Fields: []api.Field{d, x}}, d0, d1, varX)
	checkVars(t, api.Class{Name: "p", Fields: []api.Field{one}}, api.Var{Name: "one[0]", Width: 8, Mode: api.MoRand})
	// Only the fields of the class itself count, and a parent need not be known.
	checkVars(t, api.Class{Name: "p", Parent: "q", Fields: []api.Field{y, s, x}, Blocks: blocks("x")}, varY, varS, varX)
	// A class with an error has no variables.
	checkVars(t, api.Class{})
	checkVars(t, api.Class{Fields: []api.Field{x}})
	checkVars(t, api.Class{Name: "p", Parent: "A", Fields: []api.Field{x}})
	checkVars(t, api.Class{Name: "p", Fields: []api.Field{x, x}})
	checkVars(t, api.Class{Name: "p", Fields: []api.Field{x, {Name: "a"}}})
	checkVars(t, api.Class{Name: "p", Fields: []api.Field{x, {Name: "a", Width: 1, Size: math.MaxInt, Mode: api.MoRand}}})
	checkVars(t, api.Class{Name: "p", Fields: []api.Field{x}, Blocks: blocks("A")})
	checkVars(t, api.Class{Name: "p", Fields: fields(numbered("a", 17)...)})
}

// P10.6: the most variables.
func TestVarsOfArrays(t *testing.T) {
	c := api.Class{Name: "p"}
	var want []api.Var
	for _, name := range numbered("a", 16) {
		c.Fields = append(c.Fields, api.Field{Name: name, Width: 8, Size: 8, Mode: api.MoRand})
		for i := range 8 {
			want = append(want, api.Var{Name: fmt.Sprintf("%s[%d]", name, i), Width: 8, Mode: api.MoRand})
		}
	}
	checkVars(t, c, want...)
}

// P10.6
func TestVarsOfRandomClasses(t *testing.T) {
	for _, src := range newMaker(3).sources(1000) {
		for _, c := range src {
			checkVars(t, c, modelVars(c)...)
		}
	}
}
