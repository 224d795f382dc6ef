package tests

import (
	"reflect"
	"sort"
	"strings"
	"testing"
)

// span is the memory of one list, with the spare room behind it.
type span struct {
	from, to uintptr
	path     string
}

// spansOf are those of all lists in a value, at any depth.
func spansOf(v reflect.Value, path string) []span {
	switch v.Kind() {
	case reflect.Slice:
		if v.Cap() == 0 {
			return nil
		}
		list := []span{{v.Pointer(), v.Pointer() + uintptr(v.Cap())*v.Type().Elem().Size(), path}}
		for i := range v.Len() {
			list = append(list, spansOf(v.Index(i), path+"[]")...)
		}
		return list
	case reflect.Struct:
		list := []span{}
		for i := range v.NumField() {
			list = append(list, spansOf(v.Field(i), path+"."+v.Type().Field(i).Name)...)
		}
		return list
	}
	return nil
}

// checkApart fails where two lists of what is answered, or one of these and one of an argument, share memory.
func checkApart(t *testing.T, answer any, arguments ...any) {
	t.Helper()
	const own = "answer"
	spans := spansOf(reflect.ValueOf(answer), own)
	for _, a := range arguments {
		spans = append(spans, spansOf(reflect.ValueOf(a), "argument")...)
	}
	sort.SliceStable(spans, func(i, j int) bool { return spans[i].from < spans[j].from })
	// The ones that go furthest: of all that were met, and of the answer's own.
	var far, farOwn span
	for _, s := range spans {
		mine := strings.HasPrefix(s.path, own)
		if mine && s.from < far.to {
			t.Errorf("%s shares memory with %s", s.path, far.path)
		} else if s.from < farOwn.to {
			t.Errorf("%s shares memory with %s", s.path, farOwn.path)
		}
		if s.to > far.to {
			far = s
		}
		if mine && s.to > farOwn.to {
			farOwn = s
		}
	}
}

const spareRoom = 3

// copyDeep is a value without any memory in common; change tells of each list how long it becomes, and how much room it has.
func copyDeep(v reflect.Value, change func(v reflect.Value) (length, room int)) reflect.Value {
	to := reflect.New(v.Type()).Elem()
	switch v.Kind() {
	case reflect.Slice:
		if v.IsNil() {
			return to
		}
		length, room := change(v)
		to = reflect.MakeSlice(v.Type(), room, room)
		all := v.Slice(0, min(v.Cap(), room))
		for i := range all.Len() {
			to.Index(i).Set(copyDeep(all.Index(i), change))
		}
		for i := all.Len(); i < room; i++ {
			mark(to.Index(i))
		}
		return to.Slice(0, length)
	case reflect.Struct:
		for i := range v.NumField() {
			to.Field(i).Set(copyDeep(v.Field(i), change))
		}
		return to
	}
	to.Set(v)
	return to
}

// mark fills room that nobody uses, to show what is written into it.
func mark(v reflect.Value) {
	switch v.Kind() {
	case reflect.Int:
		v.SetInt(-77)
	case reflect.String:
		v.SetString("spare")
	case reflect.Struct:
		for i := range v.NumField() {
			mark(v.Field(i))
		}
	}
}

// roomy is the same value, each list with spare room behind it.
func roomy[T any](value T) T {
	return copyDeep(reflect.ValueOf(value), func(v reflect.Value) (int, int) { return v.Len(), v.Len() + spareRoom }).Interface().(T)
}

// unfolded is the value with all spare room in its lists, to be held against what it is later.
func unfolded[T any](value T) T {
	return copyDeep(reflect.ValueOf(value), func(v reflect.Value) (int, int) { return v.Cap(), v.Cap() }).Interface().(T)
}

// checkUntouched does something with a value that has spare room everywhere, and fails where it is written into.
func checkUntouched[T any](t *testing.T, value T, do func(T)) {
	t.Helper()
	given := roomy(value)
	before := unfolded(given)
	do(given)
	if !reflect.DeepEqual(unfolded(given), before) {
		t.Errorf("an argument was written into: %v", value)
	}
}
