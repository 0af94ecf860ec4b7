package class

import (
	"slices"
	"testbench/api"
)

// flattened is a class that embeds the one that it extends, which is flat: the fields and blocks that are promoted are the inherited ones.
type flattened struct {
	api.Class
	own api.Class
}

// class returns the flat class.
func (f flattened) class() api.Class {
	c := api.Class{Name: f.own.Name, Fields: slices.Concat(f.Fields, f.own.Fields), Blocks: slices.Clone(f.Blocks)}
	for _, block := range f.own.Blocks {
		c.Blocks = replaced(c.Blocks, block)
	}
	return c
}

// replaced changes the list: the block takes the place of the one with its name, or the place behind the last one.
func replaced(blocks []api.Block, block api.Block) []api.Block {
	at := slices.IndexFunc(blocks, func(b api.Block) bool { return b.Name == block.Name })
	if at < 0 {
		return append(blocks, block)
	}
	blocks[at] = block
	return blocks
}

// flat returns the flat class of a class, which begins the line of its ancestors; the zero class if the line is empty.
func flat(line []api.Class) api.Class {
	var c api.Class
	for _, next := range slices.Backward(line) {
		c = flattened{Class: c, own: next}.class()
	}
	return c
}

// lineOf returns the class, which is one of the source, and its ancestors, up to the root. Only if it comes to a class twice it has more classes than the source, and ends there.
func lineOf(src []api.Class, c api.Class) []api.Class {
	line := []api.Class{c}
	for c.Parent != "" && len(line) <= len(src) {
		c, _ = first(src, c.Parent)
		line = append(line, c)
	}
	return line
}

// lineOfNamed returns the line of the class with the name in a source that must not have an error.
func lineOfNamed(src []api.Class, name string) ([]api.Class, api.Errno) {
	if err := Check(src); err != api.OK {
		return nil, err
	}
	c, found := first(src, name)
	if !found {
		return nil, api.ErrNotFound
	}
	return lineOf(src, c), api.OK
}

// checkFamily returns the error of what classes that are valid, each for itself, inherit. (Each case relies on those before it.)
func checkFamily(src []api.Class) api.Errno {
	isOrphan := func(c api.Class) bool {
		_, found := first(src, c.Parent)
		return c.Parent != "" && !found
	}
	isEndless := func(c api.Class) bool { return len(lineOf(src, c)) > len(src) }
	repeatsField := func(c api.Class) bool { return repeats(namesOf(flat(lineOf(src, c)).Fields, fieldName)) }
	inheritsMuch := func(c api.Class) bool { return isLarge(flat(lineOf(src, c))) }
	switch {
	case repeats(namesOf(src, className)):
		return api.ErrDuplicate
	case slices.ContainsFunc(src, isOrphan):
		return api.ErrName
	case slices.ContainsFunc(src, isEndless):
		return api.ErrOrder
	case slices.ContainsFunc(src, repeatsField):
		return api.ErrDuplicate
	case slices.ContainsFunc(src, inheritsMuch):
		return api.ErrLimit
	}
	return api.OK
}

// first returns the first class with the name, and whether there is one.
func first(src []api.Class, name string) (api.Class, bool) {
	for _, c := range src {
		if c.Name == name {
			return c, true
		}
	}
	return api.Class{}, false
}
