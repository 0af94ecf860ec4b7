package classparse_test

import (
	"slices"
	"strings"
	"testing"

	"testbench/api"
	"testbench/class"
	"testbench/classparse"
	"testbench/classtext"
)

// P13.5: valid constraints.
func TestItemsAreRestored(t *testing.T) {
	m := newMaker(6)
	for range 1000 {
		l := m.validItems()
		text := classtext.Items(l, m.Intn(9))
		spaced := m.spaced(textsOf(text))
		for _, s := range []string{text, spaced, strings.Join(textsOf(text), " "), strings.Join(textsOf(text), "\n")} {
			if len(s) > api.MaxSource {
				checkAnswer(t, "Items", s, answerOf(classparse.Items(s)), answer[[]api.Item]{Err: api.ErrLimit})
				continue
			}
			checkAnswer(t, "Items", s, answerOf(classparse.Items(s)), answer[[]api.Item]{Value: l})
		}
	}
}

// P13.5: valid classes.
func TestClassesAreRestored(t *testing.T) {
	m := newMaker(7)
	for range 600 {
		c := m.class(pick(m, 3, 16), "")
		text := classtext.Print(c)
		tokens := text
		if len(text) <= api.MaxSource {
			tokens = m.spaced(textsOf(text))
		}
		for _, s := range []string{text, tokens} {
			want := answer[api.Class]{Value: c}
			if len(s) > api.MaxSource {
				want = answer[api.Class]{Err: api.ErrLimit}
			}
			checkAnswer(t, "Parse", s, answerOf(classparse.Parse(s)), want)
		}
	}
}

// P13.5: the text of a class may be as long as a source, and not longer.
func TestLongestClass(t *testing.T) {
	c := api.Class{Name: "p"}
	for i := range 16 {
		c.Blocks = append(c.Blocks, api.Block{Name: "b" + string(rune('a'+i))})
	}
	for i := 0; len(classtext.Print(c)) < api.MaxSource-200; i++ {
		b := &c.Blocks[i%16]
		b.Items = append(b.Items, hard("a + b + c"))
	}
	text := classtext.Print(c)
	c.Blocks[0].Items = append(c.Blocks[0].Items, dist(strings.Repeat("d", 16), slices.Repeat([]api.Weight{{Hi: 10, Weight: 5}}, (api.MaxSource-len(text))/len("0 .. 10 :/ 5, ")-4)...))
	for i := 0; ; i = (i + 1) % 16 {
		text = classtext.Print(c)
		if len(text) > api.MaxSource {
			break
		}
		checkAnswer(t, "Parse", text, answerOf(classparse.Parse(text)), answer[api.Class]{Value: c})
		if len(text) == api.MaxSource {
			checkSource(t, text, c)
		}
		c.Blocks[i].Name += "x"
	}
	checkClassFault(t, text, 0, api.ErrLimit)
	if len(text) != api.MaxSource+1 {
		t.Errorf("the text has %d bytes", len(text))
	}
}

// P13.4, P13.5: the text of classes.
func TestSourcesAreRestored(t *testing.T) {
	m := newMaker(8)
	for range 500 {
		src := m.family(pick(m, 2, 8), "p")
		if text := classtext.Source(src); len(text) <= api.MaxSource {
			checkSource(t, text, src...)
		}
	}
}

// P13.6: one source after the other.
func TestComposition(t *testing.T) {
	m := newMaker(9)
	counts := map[api.Errno]int{}
	for range 1500 {
		a, b := m.family(pick(m, 3, 24), "p"), m.family(pick(m, 3, 24), pick(m, "p", "q", "q"))
		both := slices.Concat(a, b)
		first, second := m.spaced(textsOf(short(classtext.Source(a)))), m.spaced(textsOf(short(classtext.Source(b))))
		s := first + "\n" + second
		if short(s) == "" || short(classtext.Source(a)) == "" && len(a) > 0 || short(classtext.Source(b)) == "" && len(b) > 0 {
			continue
		}
		checkSource(t, first, a...)
		checkSource(t, second, b...)
		err := class.Check(both)
		counts[err]++
		if err == api.OK {
			checkSource(t, s, both...)
		} else {
			checkSourceFault(t, s, 0, err)
		}
	}
	if counts[api.OK] < 300 || counts[api.ErrDuplicate] < 100 || counts[api.ErrLimit] < 20 {
		t.Errorf("the errors are %v", counts)
	}
}

// short returns the text, if it is not too long for a source.
func short(text string) string {
	if len(text) > api.MaxSource {
		return ""
	}
	return text
}

// P13.1, P13.6: behind a source, the lines of an error are greater by those of the source.
func TestLinesBehindSource(t *testing.T) {
	m := newMaker(10)
	words := strings.Fields(keywords + " " + marks + " " + others)
	count := 0
	for range 1000 {
		first := m.spaced(textsOf(classtext.Source(m.family(2, "p"))))
		second := m.spaced(m.changed(textsOf(classtext.Source(m.family(2, "q"))), words))
		if _, line, err := classparse.Source(second); line > 0 {
			count++
			checkSourceFault(t, first+"\n"+second, line+1+strings.Count(first, "\n"), err)
		}
	}
	if count < 300 {
		t.Errorf("only %d sources have such an error", count)
	}
}
