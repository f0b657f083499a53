package tests

import (
	"fmt"
	"reflect"
	"runtime"
	"strings"
	"testing"
)

// spareSlots is how much spare capacity checkPure gives to the slices of an argument.
const spareSlots = 3

// roomy returns a copy of a value in which every slice has new memory and spare capacity that is not zero.
func roomy(v reflect.Value) reflect.Value {
	copied := reflect.New(v.Type()).Elem()
	copied.Set(v)
	switch v.Kind() {
	case reflect.Struct:
		for i := range v.NumField() {
			copied.Field(i).Set(roomy(v.Field(i)))
		}
	case reflect.Slice:
		copied.Set(reflect.MakeSlice(v.Type(), v.Len()+spareSlots, v.Len()+spareSlots))
		for i := range v.Len() {
			copied.Index(i).Set(roomy(v.Index(i)))
		}
		for i := range spareSlots {
			mark(copied.Index(v.Len() + i))
		}
		copied.SetLen(v.Len())
	}
	return copied
}

// mark fills a value with numbers and strings that are not zero.
func mark(v reflect.Value) {
	switch v.Kind() {
	case reflect.Int:
		v.SetInt(77)
	case reflect.String:
		v.SetString("spare")
	case reflect.Bool:
		v.SetBool(true)
	case reflect.Struct:
		for i := range v.NumField() {
			mark(v.Field(i))
		}
	}
}

// shown is the text of values with all that their slices have room for.
func shown(values []reflect.Value) string {
	var text strings.Builder
	for _, v := range values {
		show(&text, v)
	}
	return text.String()
}

func show(text *strings.Builder, v reflect.Value) {
	switch v.Kind() {
	case reflect.Struct:
		for i := range v.NumField() {
			show(text, v.Field(i))
		}
	case reflect.Slice:
		fmt.Fprintf(text, "[%d:", v.Len())
		for i := range v.Cap() {
			show(text, v.Slice(0, v.Cap()).Index(i))
		}
		text.WriteString("]")
	default:
		fmt.Fprintf(text, "%#v,", v.Interface())
	}
}

// area is the memory of a slice.
type area struct{ from, to uintptr }

// areasOf returns the memory of all slices in values.
func areasOf(values []reflect.Value) []area {
	var list []area
	for _, v := range values {
		switch v.Kind() {
		case reflect.Struct:
			for i := range v.NumField() {
				list = append(list, areasOf([]reflect.Value{v.Field(i)})...)
			}
		case reflect.Slice:
			from := v.Pointer()
			if size := uintptr(v.Cap()) * v.Type().Elem().Size(); size > 0 {
				list = append(list, area{from, from + size})
			}
			for i := range v.Cap() {
				list = append(list, areasOf([]reflect.Value{v.Slice(0, v.Cap()).Index(i)})...)
			}
		}
	}
	return list
}

func overlap(a area, b area) bool { return a.from < b.to && b.from < a.to }

// checkPure calls a function and checks that it changes neither its arguments nor the spare capacity
// behind them, that no two slices of its results share memory with each other or with an argument,
// and that the results do not depend on the capacity of the arguments.
func checkPure(t *testing.T, call any, args ...any) {
	t.Helper()
	var plain, wide []reflect.Value
	for i, arg := range args {
		v := reflect.ValueOf(arg)
		if arg == nil {
			v = reflect.Zero(reflect.TypeOf(call).In(i))
		}
		plain = append(plain, v)
		wide = append(wide, roomy(v))
	}
	before := shown(wide)
	results := reflect.ValueOf(call).Call(wide)
	again := reflect.ValueOf(call).Call(plain)
	if shown(wide) != before {
		t.Errorf("an argument or its spare capacity was changed: %.200s became %.200s", before, shown(wide))
	}
	for i, result := range results {
		if one, two := fmt.Sprintf("%+v", result), fmt.Sprintf("%+v", again[i]); one != two {
			t.Errorf("result %d depends on a capacity: %.200s and %.200s", i, one, two)
		}
	}
	areas, given := areasOf(results), areasOf(wide)
	for i, a := range areas {
		for _, b := range areas[:i] {
			if overlap(a, b) {
				t.Errorf("two slices of one result share memory: %+v", results)
			}
		}
		for _, b := range given {
			if overlap(a, b) {
				t.Errorf("a result shares memory with an argument: %+v", results)
			}
		}
	}
	// The addresses mean something only as long as the memory behind them is kept.
	runtime.KeepAlive(wide)
	runtime.KeepAlive(results)
}

// same reports whether two values are equal, if a nil slice and an empty slice are the same value.
func same[T any](a T, b T) bool { return alike(reflect.ValueOf(a), reflect.ValueOf(b)) }

func alike(a reflect.Value, b reflect.Value) bool {
	switch a.Kind() {
	case reflect.Struct:
		for i := range a.NumField() {
			if !alike(a.Field(i), b.Field(i)) {
				return false
			}
		}
		return true
	case reflect.Slice:
		if a.Len() != b.Len() {
			return false
		}
		for i := range a.Len() {
			if !alike(a.Index(i), b.Index(i)) {
				return false
			}
		}
		return true
	}
	return a.Equal(b)
}

// copyOf returns an equal value in new memory.
func copyOf[T any](v T) T { return roomy(reflect.ValueOf(&v).Elem()).Interface().(T) }
