package classtext_test

import (
	"fmt"
	"reflect"
	"testing"

	"testbench/api"
)

// show returns the beginning of the text of a value.
func show(value any) string {
	text := fmt.Sprintf("%+v", value)
	return text[:min(len(text), 600)]
}

// mapped returns a copy of a value, each of whose lists is what change makes of the copies of its elements.
func mapped(v reflect.Value, change func(list reflect.Value) reflect.Value) reflect.Value {
	switch v.Kind() {
	case reflect.Struct:
		made := reflect.New(v.Type()).Elem()
		for i := range v.NumField() {
			made.Field(i).Set(mapped(v.Field(i), change))
		}
		return made
	case reflect.Slice:
		list := reflect.MakeSlice(v.Type(), v.Len(), v.Len()+1)
		for i := range v.Len() {
			list.Index(i).Set(mapped(v.Index(i), change))
		}
		return change(list)
	}
	return v
}

// plain returns a copy of a value, in which empty lists are nil: copies of equal values are deeply equal.
func plain[T any](value T) T {
	return mapped(reflect.ValueOf(value), func(list reflect.Value) reflect.Value {
		if list.Len() == 0 {
			return reflect.Zero(list.Type())
		}
		return list
	}).Interface().(T)
}

// roomy returns a copy of a value, in which junk lies behind the elements of each list, and no list is nil.
func roomy[T any](value T) T {
	return mapped(reflect.ValueOf(value), func(list reflect.Value) reflect.Value {
		return reflect.Append(list, junk(list.Type().Elem())).Slice(0, list.Len())
	}).Interface().(T)
}

// junk returns a value that is wrong wherever it stands.
func junk(of reflect.Type) reflect.Value {
	v := reflect.New(of).Elem()
	switch v.Kind() {
	case reflect.Struct:
		for i := range v.NumField() {
			v.Field(i).Set(junk(v.Field(i).Type()))
		}
	case reflect.Int:
		v.SetInt(-99)
	case reflect.String:
		v.SetString("Junk")
	}
	return v
}

// lists calls visit for each list in a value.
func lists(v reflect.Value, visit func(list reflect.Value)) {
	switch v.Kind() {
	case reflect.Struct:
		for i := range v.NumField() {
			lists(v.Field(i), visit)
		}
	case reflect.Slice:
		visit(v)
		for i := range v.Len() {
			lists(v.Index(i), visit)
		}
	}
}

func equal[T any](a, b T) bool {
	return reflect.DeepEqual(plain(a), plain(b))
}

// checkRoom checks that a value, which roomy has returned for want, is as it was.
func checkRoom[T any](t *testing.T, value, want T) {
	t.Helper()
	if !equal(value, want) {
		t.Errorf("%s has changed to %s", show(want), show(value))
	}
	lists(reflect.ValueOf(value), func(list reflect.Value) {
		behind := list.Slice(0, list.Len()+1).Index(list.Len())
		if !reflect.DeepEqual(behind.Interface(), junk(list.Type().Elem()).Interface()) {
			t.Errorf("what lies behind the elements of %s has changed to %s", show(list), show(behind))
		}
	})
}

// roomy and equal reach every list of a class.
func TestRoomy(t *testing.T) {
	items := list(hard("a + ones(d[2]) < 3"), dist("a"), solve("a", "b"), otherwise(when("a", soft("b")), each("i", "d", soft("b"))))
	value := api.Class{Fields: []api.Field{{Name: "a"}}, Blocks: []api.Block{{Name: "b", Items: items}}}
	crowded := roomy(value)
	checkRoom(t, crowded, value)
	count := 0
	lists(reflect.ValueOf(crowded), func(list reflect.Value) {
		count++
		if list.Len() == 0 {
			return
		}
		kept := reflect.ValueOf(list.Index(0).Interface())
		list.Index(0).Set(junk(list.Type().Elem()))
		if equal(crowded, value) {
			t.Errorf("a change of %s is not seen", show(list))
		}
		list.Index(0).Set(kept)
	})
	if !equal(crowded, value) || count < 30 {
		t.Errorf("%d lists, and %s", count, show(crowded))
	}
}
