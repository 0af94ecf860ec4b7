package classtext_test

import (
	"fmt"
	"regexp"
	"slices"
	"strings"
	"testing"

	"testbench/api"
	"testbench/classtext"
	"testbench/item"
)

// texts has what has been printed, by the texts.
type texts[T any] map[string]T

// add checks that nothing else has the text.
func (seen texts[T]) add(t *testing.T, text string, value T) {
	t.Helper()
	if other, found := seen[text]; found && !equal(other, value) {
		t.Errorf("%s and %s have the text %q", show(other), show(value), text)
	}
	seen[text] = value
}

// P12.5: all small classes of a few parts.
func TestDistinctClasses(t *testing.T) {
	seen := texts[api.Class]{}
	count := 0
	for _, name := range []string{"a", "b"} {
		for _, parent := range []string{"", "a", "b"} {
			for mode := range 3 {
				for size := range 3 {
					for _, width := range []int{1, 2, 8} {
						for init := range 4 {
							for blocks := range 3 {
								c := api.Class{Name: name, Parent: parent, Fields: []api.Field{{Name: "a", Mode: mode, Size: size, Width: width, Init: init}}, Blocks: []api.Block{{Name: "a", Items: list(hard("a"))}, {Name: "b"}}[:blocks]}
								text := classtext.Print(c)
								if text != "" {
									seen.add(t, text, c)
									count++
								}
							}
						}
					}
				}
			}
		}
	}
	if len(seen) != count || count < 300 {
		t.Errorf("%d classes have %d texts", count, len(seen))
	}
}

// P12.5: lists of up to three constraints, in which others stand.
func TestDistinctItems(t *testing.T) {
	seen := texts[[]api.Item]{}
	var few []api.Item
	for _, e := range []string{"a", "b", "!a", "a + b"} {
		few = append(few, hard(e), soft(e))
	}
	small := [][]api.Item{nil, few[:1], few[1:2], few[:2]}
	for _, inner := range small {
		for _, name := range []string{"a", "i"} {
			few = append(few, when(name, inner...), each("i", name, inner...), each("a", name, inner...))
		}
		for _, other := range small {
			few = append(few, otherwise(when("a", inner...), other...), when("b", append(slices.Clone(inner), when("a", other...))...), when("b", otherwise(when("a", inner...), other...)))
		}
	}
	for _, names := range []string{"a", "b", "a b", "b a", "a[0]"} {
		few = append(few, solve(names, "a"), solve("a", names), dist(names[:1]), dist("a[0]"), dist("a", api.Weight{Hi: len(names), Weight: 1}), dist("a", api.Weight{Hi: len(names), Weight: 1, Each: true}))
	}
	for _, one := range few {
		for _, two := range append(few, api.Item{}) {
			l := list(one, two)
			if two.Kind == 0 {
				l = l[:1]
			}
			text := classtext.Items(l, 0)
			seen.add(t, text, l)
			if text != classtext.Items(roomy(l), 0) {
				t.Errorf("the text of %s depends on the difference between nil and an empty list", show(l))
			}
		}
	}
	if len(seen) < 3000 {
		t.Errorf("there are %d texts", len(seen))
	}
}

// P12.5: classes between which there is a small difference.
func TestDistinctNeighbours(t *testing.T) {
	m := newMaker(6)
	count := 0
	for range 3000 {
		c := m.class()
		other := m.neighbour(c)
		text, changed := classtext.Print(c), classtext.Print(other)
		if text == "" || changed == "" {
			t.Errorf("%s and %s have the texts %q and %q", show(c), show(other), text, changed)
		}
		if equal(c, other) != (text == changed) {
			t.Errorf("%s and %s have the texts %q and %q", show(c), show(other), text, changed)
		}
		if text != changed {
			count++
		}
	}
	if count < 1000 {
		t.Errorf("there are only %d differences", count)
	}
}

// P12.6: one list after the other.
func TestComposition(t *testing.T) {
	m := newMaker(7)
	count := 0
	for range 1000 {
		a, b, indent := m.validItems(), m.validItems(), m.Intn(33)
		both := slices.Concat(a, b)
		if item.Size(both) > api.MaxItems {
			checkItems(t, both, indent, "")
			continue
		}
		checkItems(t, both, indent, classtext.Items(a, indent)+classtext.Items(b, indent))
		count++
	}
	if count < 800 {
		t.Errorf("only %d lists are not too long", count)
	}
}

// P12.6: the lines of the next indentation.
func TestIndentation(t *testing.T) {
	m := newMaker(8)
	for range 100 {
		l := m.validItems()
		for indent := range 32 {
			var want strings.Builder
			for line := range strings.Lines(classtext.Items(l, indent)) {
				want.WriteString("    " + line)
			}
			checkItems(t, l, indent+1, want.String())
		}
	}
}

// P12.7
func TestLines(t *testing.T) {
	m := newMaker(9)
	form := regexp.MustCompile(`^(?:(?:[ -~]*[!-~])?\n)*$`)
	for range 500 {
		c := m.class()
		for i, text := range []string{classtext.Print(c), classtext.Source([]api.Class{c, m.class()}), classtext.Items(m.validItems(), m.Intn(33))} {
			if !form.MatchString(text) {
				t.Errorf("%q has other lines", text)
			}
			if hasEmpty := strings.Contains("\n"+text, "\n\n"); text != "" && hasEmpty != (i == 1) {
				t.Errorf("%q has empty lines: %v", text, hasEmpty)
			}
		}
	}
}

// Rule 0.4: equal arguments have equal texts, wherever they lie and whatever lists they share.
func TestSharedLists(t *testing.T) {
	l := list(hard("a"), soft("b"), hard("c"))
	shared := list(otherwise(when("a", l[:2]...), l[:2]...), each("i", "d", l...), each("i", "d", l[1:]...))
	for _, value := range [][]api.Item{shared, plain(shared), roomy(shared)} {
		checkItems(t, value, 0, classtext.Items(shared, 0))
	}
	want := fmt.Sprintf("if (a) {\n%[1]s} else {\n%[1]s}\neach i in d {\n%[1]s%[2]s}\neach i in d {\n    soft b;\n%[2]s}\n", "    a;\n    soft b;\n", "    c;\n")
	checkItems(t, shared, 0, want)
}
