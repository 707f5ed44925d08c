package tests

import (
	"fmt"
	"reflect"
	"strings"
	"testing"
)

// span is where a list lies, its spare room included.
type span struct {
	from, to uintptr
	where    string
}

func spansOf(v reflect.Value, where string) []span {
	var list []span
	switch v.Kind() {
	case reflect.Slice:
		if v.Cap() > 0 {
			list = append(list, span{v.Pointer(), v.Pointer() + uintptr(v.Cap())*v.Type().Elem().Size(), where})
		}
		for i := range v.Len() {
			list = append(list, spansOf(v.Index(i), fmt.Sprintf("%s[%d]", where, i))...)
		}
	case reflect.Struct:
		for i := range v.NumField() {
			list = append(list, spansOf(v.Field(i), where+"."+v.Type().Field(i).Name)...)
		}
	case reflect.Interface:
		list = spansOf(v.Elem(), where)
	}
	return list
}

// shared names two lists that lie in one memory: two of the answers, or one of these and one of what was handed in.
func shared(handed any, answers []any) string {
	theirs := spansOf(reflect.ValueOf(handed), "handed")
	ours := spansOf(reflect.ValueOf(answers), "answer")
	for i, a := range ours {
		for _, b := range append(theirs, ours[:i]...) {
			if a.from < b.to && b.from < a.to {
				return a.where + " and " + b.where
			}
		}
	}
	return ""
}

// mark is a value that stands behind the end of a list, where nobody may write.
func mark(kind reflect.Type) reflect.Value {
	v := reflect.New(kind).Elem()
	switch kind.Kind() {
	case reflect.Int:
		v.SetInt(-77)
	case reflect.Bool:
		v.SetBool(true)
	case reflect.Struct:
		for i := range v.NumField() {
			v.Field(i).Set(mark(kind.Field(i).Type))
		}
	}
	return v
}

func roomyValue(v reflect.Value) reflect.Value {
	made := reflect.New(v.Type()).Elem()
	switch v.Kind() {
	case reflect.Slice:
		const room = 3
		made.Set(reflect.MakeSlice(v.Type(), v.Len()+room, v.Len()+room))
		for i := range v.Len() {
			made.Index(i).Set(roomyValue(v.Index(i)))
		}
		for i := range room {
			made.Index(v.Len() + i).Set(mark(v.Type().Elem()))
		}
		made.SetLen(v.Len())
	case reflect.Struct:
		for i := range v.NumField() {
			made.Field(i).Set(roomyValue(v.Field(i)))
		}
	default:
		made.Set(v)
	}
	return made
}

// roomyCopy is a copy whose lists all have room behind their ends, with marks in it.
func roomyCopy[T any](one T) T {
	return roomyValue(reflect.ValueOf(one)).Interface().(T)
}

// fullText tells all that lies in a value, the room behind the ends of its lists included.
func fullText(v reflect.Value) string {
	var parts []string
	switch v.Kind() {
	case reflect.Slice:
		for i := range v.Cap() {
			parts = append(parts, fullText(v.Slice(0, v.Cap()).Index(i)))
		}
		return fmt.Sprint(v.Len(), "[", strings.Join(parts, " "), "]")
	case reflect.Struct:
		for i := range v.NumField() {
			parts = append(parts, fullText(v.Field(i)))
		}
		return "{" + strings.Join(parts, " ") + "}"
	}
	return fmt.Sprint(v.Interface())
}

// clean holds that a call writes nothing into what it is handed, nor behind the ends of its lists, and answers new memory.
func clean[T any](t *testing.T, what string, was T, call func(T) []any) {
	t.Helper()
	handed := roomyCopy(was)
	before := fullText(reflect.ValueOf(handed))
	answers := call(handed)
	if after := fullText(reflect.ValueOf(handed)); after != before {
		t.Fatalf("%s writes into what it is handed:\n%s\nwas\n%s", what, after, before)
	}
	if both := shared(handed, answers); both != "" {
		t.Fatalf("%s of %v: %s share memory", what, was, both)
	}
}

// The means by which the other tests look for shared memory must find it.
func TestSharedMemoryIsFound(t *testing.T) {
	type pair struct{ A, B []int }
	list := []int{1, 2, 3, 4}
	expect(t, "two that lie apart", shared(pair{A: []int{1}}, []any{pair{[]int{1}, []int{2}}}), "")
	expect(t, "with what was handed in", shared(pair{A: list}, []any{[]pair{{B: list[3:]}}}), "answer[0][0].B and handed.A")
	expect(t, "by spare room", shared(0, []any{list[:1], list[2:]}), "answer[1] and answer[0]")
	handed := roomyCopy(pair{A: list})
	before := fullText(reflect.ValueOf(handed))
	_ = append(handed.A, 5)
	expect(t, "written behind the end", fullText(reflect.ValueOf(handed)) == before, false)
}
