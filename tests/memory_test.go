package tests

import (
	"cmp"
	"reflect"
	"slices"
	"testing"
)

// same holds two values against each other; an empty list and nil are the same.
func same[T any](a, b T) bool {
	return sameValue(reflect.ValueOf(a), reflect.ValueOf(b))
}

func sameValue(a, b reflect.Value) bool {
	switch a.Kind() {
	case reflect.Struct:
		for i := range a.NumField() {
			if !sameValue(a.Field(i), b.Field(i)) {
				return false
			}
		}
		return true
	case reflect.Slice:
		if a.Len() != b.Len() {
			return false
		}
		for i := range a.Len() {
			if !sameValue(a.Index(i), b.Index(i)) {
				return false
			}
		}
		return true
	default:
		return a.Equal(b)
	}
}

// deepCopy shares no memory with v. Each of its lists has extra elements of
// room behind its end, filled with something, so that a write there shows.
func deepCopy[T any](v T, extra int) T {
	return copyValue(reflect.ValueOf(v), extra).Interface().(T)
}

func copyValue(v reflect.Value, extra int) reflect.Value {
	copied := reflect.New(v.Type()).Elem()
	switch v.Kind() {
	case reflect.Struct:
		for i := range v.NumField() {
			copied.Field(i).Set(copyValue(v.Field(i), extra))
		}
	case reflect.Slice:
		list := reflect.MakeSlice(v.Type(), v.Len()+extra, v.Len()+extra)
		for i := range v.Len() {
			list.Index(i).Set(copyValue(v.Index(i), extra))
		}
		for i := range extra {
			fill(list.Index(v.Len() + i))
		}
		copied.Set(list.Slice(0, v.Len()))
	default:
		copied.Set(v)
	}
	return copied
}

// fill makes v different from zero, whatever it is.
func fill(v reflect.Value) {
	switch v.Kind() {
	case reflect.Struct:
		for i := range v.NumField() {
			fill(v.Field(i))
		}
	case reflect.Slice:
		v.Set(reflect.MakeSlice(v.Type(), 1, 1))
		fill(v.Index(0))
	case reflect.Bool:
		v.SetBool(true)
	case reflect.String:
		v.SetString("filled")
	case reflect.Uint8:
		v.SetUint(0xa5)
	default:
		v.SetInt(77)
	}
}

// withRoom tells v with all its lists as long as their room is.
func withRoom(v reflect.Value) reflect.Value {
	whole := reflect.New(v.Type()).Elem()
	switch v.Kind() {
	case reflect.Struct:
		for i := range v.NumField() {
			whole.Field(i).Set(withRoom(v.Field(i)))
		}
	case reflect.Slice:
		list := reflect.MakeSlice(v.Type(), v.Cap(), v.Cap())
		for i := range v.Cap() {
			list.Index(i).Set(withRoom(v.Slice(0, v.Cap()).Index(i)))
		}
		whole.Set(list)
	default:
		whole.Set(v)
	}
	return whole
}

// span is the memory of one list, its room with it.
type span struct {
	from, to uintptr
}

func spansOf(v reflect.Value) []span {
	var spans []span
	switch v.Kind() {
	case reflect.Struct:
		for i := range v.NumField() {
			spans = append(spans, spansOf(v.Field(i))...)
		}
	case reflect.Slice:
		if v.Cap() > 0 {
			from := v.Pointer()
			spans = append(spans, span{from, from + uintptr(v.Cap())*v.Type().Elem().Size()})
		}
		for i := range v.Len() {
			spans = append(spans, spansOf(v.Index(i))...)
		}
	}
	return spans
}

func overlap(spans []span) bool {
	slices.SortFunc(spans, func(a, b span) int { return cmp.Compare(a.from, b.from) })
	for i := 1; i < len(spans); i++ {
		if spans[i].from < spans[i-1].to {
			return true
		}
	}
	return false
}

// wantNew holds a call against promise 1: it changes none of its arguments,
// answers the same again, and what it answers is new memory, list by list.
// The arguments must have lists that do not overlap.
func wantNew[T any](t *testing.T, what string, call func() T, arguments ...any) {
	t.Helper()
	var before []reflect.Value
	var taken []span
	for _, argument := range arguments {
		before = append(before, withRoom(reflect.ValueOf(argument)))
		taken = append(taken, spansOf(reflect.ValueOf(argument))...)
	}
	first, second := call(), call()
	if !same(first, second) {
		t.Errorf("%s: two calls answer differently", what)
	}
	all := slices.Concat(taken, spansOf(reflect.ValueOf(first)), spansOf(reflect.ValueOf(second)))
	if overlap(all) {
		t.Errorf("%s: an answer shares memory", what)
	}
	for i, argument := range arguments {
		if !sameValue(before[i], withRoom(reflect.ValueOf(argument))) {
			t.Errorf("%s: the argument %d is changed", what, i)
		}
	}
}

// The checks above must see what they are there for.
func TestMemoryChecks(t *testing.T) {
	type pair struct {
		A, B []byte
		C    [][]int64
	}
	list := []byte{1, 2, 3, 4}
	seen := func(p pair) bool { return overlap(spansOf(reflect.ValueOf(p))) }
	if !seen(pair{A: list, B: list}) || !seen(pair{A: list[:2], B: list[2:]}) {
		t.Error("lists that overlap are not seen")
	}
	if seen(pair{A: list[0:2:2], B: list[2:]}) || seen(pair{A: list, C: [][]int64{{1}, {2}, nil}}) {
		t.Error("lists that do not overlap are said to")
	}
	roomy := deepCopy(pair{A: list, C: [][]int64{{1}}}, 2)
	if !same(roomy, pair{A: list, B: []byte{}, C: [][]int64{{1}}}) || same(roomy, pair{A: list}) || cap(roomy.C) != 3 {
		t.Error("a copy is not the same")
	}
	before := withRoom(reflect.ValueOf(roomy))
	_ = append(roomy.A, 9)
	if sameValue(before, withRoom(reflect.ValueOf(roomy))) {
		t.Error("a write behind a list's end is not seen")
	}
}
