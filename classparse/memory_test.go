package classparse_test

import (
	"cmp"
	"fmt"
	"reflect"
	"slices"
	"strings"
	"testing"

	"testbench/api"
	"testbench/classparse"
)

// show returns the beginning of the text of a value.
func show(value any) string {
	text := fmt.Sprintf("%+v", value)
	return text[:min(len(text), 600)]
}

// quote returns the beginning of a source in quotes.
func quote(s string) string {
	return fmt.Sprintf("%q", s[:min(len(s), 600)])
}

// plain returns a copy of a value, in which empty lists are nil: copies of equal values are deeply equal.
func plain(v reflect.Value) reflect.Value {
	made := reflect.New(v.Type()).Elem()
	switch v.Kind() {
	case reflect.Struct:
		for i := range v.NumField() {
			made.Field(i).Set(plain(v.Field(i)))
		}
		return made
	case reflect.Slice:
		for i := range v.Len() {
			made.Set(reflect.Append(made, plain(v.Index(i))))
		}
		return made
	}
	return v
}

func equal[T any](a, b T) bool {
	return reflect.DeepEqual(plain(reflect.ValueOf(a)).Interface(), plain(reflect.ValueOf(b)).Interface())
}

// lists calls visit for each list in a value.
func lists(v reflect.Value, visit func(list reflect.Value)) {
	switch v.Kind() {
	case reflect.Struct:
		for i := range v.NumField() {
			lists(v.Field(i), visit)
		}
	case reflect.Slice:
		visit(v)
		for i := range v.Len() {
			lists(v.Index(i), visit)
		}
	}
}

// room is the memory of a list, with that behind its elements.
type room struct{ from, to uintptr }

// roomsOf returns the rooms of all lists of some values, in their order.
func roomsOf(values ...any) []room {
	var rooms []room
	for _, value := range values {
		lists(reflect.ValueOf(value), func(list reflect.Value) {
			if size := uintptr(list.Cap()) * list.Type().Elem().Size(); size > 0 {
				rooms = append(rooms, room{list.Pointer(), list.Pointer() + size})
			}
		})
	}
	slices.SortFunc(rooms, func(a, b room) int { return cmp.Compare(a.from, b.from) })
	return rooms
}

// overlaps reports whether two lists of some values share memory.
func overlaps(values ...any) bool {
	rooms := roomsOf(values...)
	for i := range rooms[:max(len(rooms)-1, 0)] {
		if rooms[i].to > rooms[i+1].from {
			return true
		}
	}
	return false
}

const everything = `class base {
    state mode : 1 = 1;
    rand d[4] : 8;
}

class p extends base {
    rand a : 2;
    randc b : 3;
    constraint c {
        a + ones(b) inside { 1 .. 2, d[a] .. sum(d) };
        soft a ? b : mode;
        dist a { 0 := 2, 1 .. 3 :/ 6 };
        dist d[1] { 5 :/ 0 };
        if (mode == 1) {
            a < b;
            soft !a;
        } else {
            each i in d {
                d[i] < 9;
                if (d@0) {
                }
            }
        }
        solve a, d before b, d[0], mode;
    }
    constraint e {
    }
}
`

// Rules 0.4, 7a: results are new memory.
func TestMemory(t *testing.T) {
	block := everything[strings.Index(everything, "a + ones") : strings.Index(everything, "mode;\n    }")+len("mode;\n")]
	for range 3 {
		items, _, fault := classparse.Items(block)
		again, _, faultAgain := classparse.Items(block)
		one, _, faultOfOne := classparse.Parse(everything[strings.Index(everything, "class p"):])
		all, _, faultOfAll := classparse.Source(everything)
		if fault != api.OK || faultAgain != api.OK || faultOfOne != api.OK || faultOfAll != api.OK {
			t.Fatal(fault, faultAgain, faultOfOne, faultOfAll)
		}
		if overlaps(items, again, one, all) {
			t.Error("lists share memory")
		}
		if n := len(roomsOf(items, again, one, all)); n < 60 {
			t.Errorf("there are only %d lists", n)
		}
		items[0].Expr.Args[0].Op, items[3].Name, one.Blocks[0].Items[0].Expr.Args[0].Op = 99, "z", 99
		if got := answerOf(classparse.Items(block)); !equal(got, answer[[]api.Item]{Value: again}) {
			t.Errorf("a later result is %s", show(got))
		}
	}
}

// overlaps finds what is shared.
func TestOverlaps(t *testing.T) {
	names := []string{"a", "b", "c"}
	for _, one := range []struct {
		values []any
		want   bool
	}{
		{nil, false},
		{[]any{names}, false},
		{[]any{names, names[2:]}, true},
		{[]any{names[:1:1], names[1:]}, false},
		{[]any{names[:1:2], names[1:]}, true},
		{[]any{api.Item{Before: names[:1], After: names[1:]}}, true},
		{[]any{[]api.Item{{Before: names[:1:1]}, {After: names[1:]}}}, false},
		{[]any{[]api.Item{{Before: names}, {After: names}}}, true},
	} {
		if got := overlaps(one.values...); got != one.want {
			t.Errorf("overlaps(%s) = %v", show(one.values), got)
		}
	}
}

// What equal finds.
func TestEqual(t *testing.T) {
	a, b := answer[[]api.Item]{Value: []api.Item{{Before: []string{"a"}}}}, answer[[]api.Item]{Value: []api.Item{{Before: []string{"a"}, After: []string{}}}}
	if !equal(a, b) {
		t.Error("nil and an empty list are different")
	}
	b.Value[0].Before = []string{"b"}
	if equal(a, b) || equal(a, answer[[]api.Item]{Value: a.Value, Line: 1}) || equal(a, answer[[]api.Item]{Value: a.Value, Err: 1}) || equal(a, answer[[]api.Item]{}) {
		t.Error("a difference is not found")
	}
}
