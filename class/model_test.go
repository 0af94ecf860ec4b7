package class_test

import (
	"fmt"
	"math/rand"
	"regexp"
	"slices"
	"strings"
	"testing"

	"testbench/api"
)

const (
	keywords = "class extends rand randc state constraint soft dist if else each in solve before inside property seq and or not set hold plain repeat"
	longName = "a123456789_BCDEF" // a name with the most bytes
)

var modelName = regexp.MustCompile(`^[a-z][a-zA-Z0-9_]{0,15}$`)

func isModelName(s string) bool {
	return modelName.MatchString(s) && !slices.Contains(strings.Fields(keywords), s)
}

// wrongNames are no names.
func wrongNames() []string {
	return append(strings.Fields(keywords), "", " ", "A", "Ab", "_", "_a", "0", "1a", "a ", " a", "a.b", "a-b", "é", "aé", "\xff", "a\x00", "a\n", "a[0]", "a[", "a@0", "+", longName+"G", longName+"0", strings.Repeat("a", 1000))
}

// modelField follows P10.1.
func modelField(f api.Field) api.Errno {
	if !isModelName(f.Name) {
		return api.ErrName
	}
	limits := map[int][]int{api.MoState: {2, 4, 8, 16, 32, 64, 128, 256}, api.MoRand: slices.Repeat([]int{1}, 8), api.MoCyclic: slices.Repeat([]int{1}, 8)}[f.Mode]
	fits := limits != nil && f.Width >= 1 && f.Width <= 8 && f.Size >= 0 && f.Size <= 8 && (f.Size == 0 || f.Mode != api.MoCyclic)
	if !fits || f.Init < 0 || f.Init >= limits[f.Width-1] {
		return api.ErrArg
	}
	return api.OK
}

// modelRepeats reports whether a name is in the list twice.
func modelRepeats(names []string) bool {
	sorted := slices.Sorted(slices.Values(names))
	return len(slices.Compact(sorted)) < len(names)
}

func fieldNames(c api.Class) (list []string) {
	for _, f := range c.Fields {
		list = append(list, f.Name)
	}
	return list
}

func blockNames(c api.Class) (list []string) {
	for _, b := range c.Blocks {
		list = append(list, b.Name)
	}
	return list
}

func classNames(src []api.Class) (list []string) {
	for _, c := range src {
		list = append(list, c.Name)
	}
	return list
}

// modelValid follows P10.2.
func modelValid(c api.Class) api.Errno {
	if !isModelName(c.Name) || c.Parent != "" && !isModelName(c.Parent) {
		return api.ErrName
	}
	if len(c.Fields) > 16 || len(c.Blocks) > 16 {
		return api.ErrLimit
	}
	for _, f := range c.Fields {
		if err := modelField(f); err != api.OK {
			return err
		}
	}
	for _, name := range blockNames(c) {
		if !isModelName(name) {
			return api.ErrName
		}
	}
	if modelRepeats(fieldNames(c)) || modelRepeats(blockNames(c)) {
		return api.ErrDuplicate
	}
	return api.OK
}

// ancestors has, for each class, its ancestors: the transitive closure of the relation of the parents.
func ancestors(src []api.Class) map[string]map[string]bool {
	of := map[string]map[string]bool{}
	for _, c := range src {
		of[c.Name] = map[string]bool{}
		if c.Parent != "" {
			of[c.Name][c.Parent] = true
		}
	}
	for middle := range of {
		for lower := range of {
			for upper := range of {
				if of[lower][middle] && of[middle][upper] {
					of[lower][upper] = true
				}
			}
		}
	}
	return of
}

// modelCheck follows P10.3.
func modelCheck(src []api.Class) api.Errno {
	if len(src) > 32 {
		return api.ErrLimit
	}
	for _, c := range src {
		if err := modelValid(c); err != api.OK {
			return err
		}
	}
	if modelRepeats(classNames(src)) {
		return api.ErrDuplicate
	}
	for _, c := range src {
		if c.Parent != "" && !slices.Contains(classNames(src), c.Parent) {
			return api.ErrName
		}
	}
	of := ancestors(src)
	for name := range of {
		if of[name][name] {
			return api.ErrOrder
		}
	}
	return modelInherited(src, of)
}

// modelInherited follows the end of P10.3, from the fields of the ancestors on.
func modelInherited(src []api.Class, of map[string]map[string]bool) api.Errno {
	err := api.OK
	for _, c := range src {
		fields, blocks := len(c.Fields), map[string]bool{}
		for _, other := range src {
			if other.Name != c.Name && !of[c.Name][other.Name] {
				continue
			}
			for _, name := range blockNames(other) {
				blocks[name] = true
			}
			if other.Name == c.Name {
				continue
			}
			if modelRepeats(append(fieldNames(c), fieldNames(other)...)) {
				return api.ErrDuplicate
			}
			fields += len(other.Fields)
		}
		if fields > 16 || len(blocks) > 16 {
			err = api.ErrLimit
		}
	}
	return err
}

// modelLine returns the class with the name and its ancestors in a source without errors: the fewer ancestors a class has, the nearer it is to the root.
func modelLine(src []api.Class, name string) []api.Class {
	of := ancestors(src)
	var line []api.Class
	for _, c := range src {
		if c.Name == name || of[name][c.Name] {
			line = append(line, c)
		}
	}
	slices.SortFunc(line, func(a, b api.Class) int { return len(of[b.Name]) - len(of[a.Name]) })
	return line
}

// modelFlat returns the flat class of the class with the name in a source without errors.
func modelFlat(src []api.Class, name string) api.Class {
	flat := api.Class{Name: name}
	latest := map[string][]api.Item{}
	for _, c := range slices.Backward(modelLine(src, name)) {
		flat.Fields = append(flat.Fields, c.Fields...)
		for _, b := range c.Blocks {
			if !slices.Contains(blockNames(flat), b.Name) {
				flat.Blocks = append(flat.Blocks, api.Block{Name: b.Name})
			}
			latest[b.Name] = b.Items
		}
	}
	for i, b := range flat.Blocks {
		flat.Blocks[i].Items = latest[b.Name]
	}
	return flat
}

// modelVars follows P10.6.
func modelVars(c api.Class) []api.Var {
	var list []api.Var
	if modelValid(c) != api.OK {
		return list
	}
	for _, f := range c.Fields {
		names := strings.Fields(fmt.Sprintf("%[1]s[0] %[1]s[1] %[1]s[2] %[1]s[3] %[1]s[4] %[1]s[5] %[1]s[6] %[1]s[7]", f.Name))[:f.Size]
		if f.Size == 0 {
			names = []string{f.Name}
		}
		for _, name := range names {
			list = append(list, api.Var{Name: name, Width: f.Width, Mode: f.Mode, Value: f.Init})
		}
	}
	return list
}

// maker makes random classes and sources.
type maker struct{ *rand.Rand }

func newMaker(seed int64) maker {
	return maker{rand.New(rand.NewSource(seed))}
}

func pick[T any](m maker, list ...T) T {
	return list[m.Intn(len(list))]
}

// expr returns an expression with at most so many levels, which need not be valid.
func (m maker) expr(levels int) api.Expr {
	e := api.Expr{Op: m.Intn(27), N: m.Intn(3), Name: pick(m, "", "a", "A")}
	for range m.Intn(3) * min(levels-1, 1) {
		e.Args = append(e.Args, m.expr(levels-1))
	}
	return e
}

func (m maker) names() []string {
	return []string{"a", "B", "a[0]"}[:m.Intn(4)]
}

// items returns constraints with at most so many levels, which need not be valid.
func (m maker) items(levels int) []api.Item {
	var list []api.Item
	for range m.Intn(3) * min(levels, 1) {
		item := api.Item{Kind: m.Intn(8), Expr: m.expr(3), Name: pick(m, "", "a", "A"), Index: pick(m, "", "i"), Before: m.names(), After: m.names()}
		for range m.Intn(3) {
			item.Weights = append(item.Weights, api.Weight{Lo: m.Intn(9) - 1, Hi: m.Intn(9), Weight: m.Intn(9), Each: m.Intn(2) == 0})
		}
		item.Items, item.Else = m.items(levels-1), m.items(levels-1)
		list = append(list, item)
	}
	return list
}

// field returns a valid field.
func (m maker) field(name string) api.Field {
	f := api.Field{Name: name, Width: 1 + m.Intn(8), Size: pick(m, 0, 0, m.Intn(9)), Mode: pick(m, api.MoState, api.MoRand, api.MoCyclic)}
	switch f.Mode {
	case api.MoState:
		f.Init = m.Intn(1 << f.Width)
	case api.MoCyclic:
		f.Size = 0
	}
	return f
}

// class returns a valid class, most of whose fields begin with their name.
func (m maker) class(name, parent string, fields, blocks int) api.Class {
	c := api.Class{Name: name, Parent: parent}
	for i := range fields {
		c.Fields = append(c.Fields, m.field(fmt.Sprintf("%s_%d", name, i)))
	}
	for _, i := range m.Perm(20)[:blocks] {
		c.Blocks = append(c.Blocks, api.Block{Name: fmt.Sprintf("b%d", i), Items: m.items(3)})
	}
	return c
}

// source returns classes that are valid, each with a parent among those before it; then their order is changed.
func (m maker) source(classes int) []api.Class {
	var src []api.Class
	parts := pick(m, 2, 3, 5)
	for i := range classes {
		parent := ""
		if i > 0 && m.Intn(5) > 0 {
			parent = src[max(m.Intn(i), m.Intn(i))].Name
		}
		src = append(src, m.class(fmt.Sprintf("c%d", i), parent, m.Intn(parts), m.Intn(parts)))
	}
	m.Shuffle(len(src), func(i, j int) { src[i], src[j] = src[j], src[i] })
	return src
}

// spoil makes a source wrong, most of the time.
func (m maker) spoil(src []api.Class) {
	c, other := &src[m.Intn(len(src))], src[m.Intn(len(src))]
	switch m.Intn(7) {
	case 0:
		c.Name = pick(m, other.Name, "", "A", "other", "solve")
	case 1, 2:
		c.Parent = pick(m, other.Name, other.Name, "", "A", "other", "solve")
	case 3:
		c.Fields = append(c.Fields, m.field(pick(m, append(fieldNames(other), "a", "A", "in")...)))
	case 4:
		c.Fields = append(c.Fields, api.Field{Name: "a", Width: m.Intn(10), Size: m.Intn(10), Mode: m.Intn(4), Init: m.Intn(3)})
	case 5:
		c.Blocks = append(c.Blocks, api.Block{Name: pick(m, append(blockNames(other), "b", "B", "in")...)})
	case 6:
		more := m.class("x", "", m.Intn(18), m.Intn(18))
		c.Fields, c.Blocks = append(c.Fields, more.Fields...), append(c.Blocks, more.Blocks...)
	}
}

// sources returns random ones, many of which have an error.
func (m maker) sources(count int) [][]api.Class {
	var list [][]api.Class
	for range count {
		src := m.source(1 + m.Intn(pick(m, 3, 6, 12)))
		for range pick(m, 0, 0, 1, 1, 2, 4) {
			m.spoil(src)
		}
		list = append(list, src)
	}
	return list
}

// Enough of the random sources have each error.
func TestMaker(t *testing.T) {
	counts := map[api.Errno]int{}
	for _, src := range newMaker(1).sources(3000) {
		counts[modelCheck(src)]++
	}
	for _, err := range []api.Errno{api.OK, api.ErrName, api.ErrArg, api.ErrLimit, api.ErrDuplicate, api.ErrOrder} {
		if counts[err] < 50 {
			t.Errorf("%d sources have the error %d", counts[err], err)
		}
	}
	if counts[api.OK] < 1000 {
		t.Errorf("%d sources are without errors", counts[api.OK])
	}
}
