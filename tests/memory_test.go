package tests

import (
	"fmt"
	"reflect"
	"slices"
	"testing"
)

// Helpers for what every function must do: leave its arguments and the room behind them as they are, and answer in memory of its own.

// A piece of memory that a list has, the room behind it, too.
type piece struct {
	from, to uintptr
	where    string
}

func piecesOf(v reflect.Value, where string) []piece {
	out := []piece{}
	switch v.Kind() {
	case reflect.Slice:
		if size := uintptr(v.Cap()) * v.Type().Elem().Size(); size > 0 {
			out = append(out, piece{v.Pointer(), v.Pointer() + size, where})
		}
		for i := range v.Len() {
			out = append(out, piecesOf(v.Index(i), fmt.Sprintf("%s[%d]", where, i))...)
		}
	case reflect.Struct:
		for i := range v.NumField() {
			out = append(out, piecesOf(v.Field(i), where+"."+v.Type().Field(i).Name)...)
		}
	}
	return out
}

// Complains where two lists of the answers share memory, or one of them with an argument.
func apart(t *testing.T, name string, answers []any, args ...any) {
	t.Helper()
	all := []piece{}
	for i, x := range answers {
		all = append(all, piecesOf(reflect.ValueOf(x), fmt.Sprintf("answer %d", i))...)
	}
	own := len(all)
	for i, x := range args {
		all = append(all, piecesOf(reflect.ValueOf(x), fmt.Sprintf("argument %d", i))...)
	}
	for i, a := range all[:own] {
		for _, b := range all[i+1:] {
			if a.from < b.to && b.from < a.to {
				t.Errorf("%s: %s and %s share memory", name, a.where, b.where)
			}
		}
	}
}

func wholeText(v reflect.Value) string {
	switch v.Kind() {
	case reflect.Slice:
		out := fmt.Sprintf("%d[", v.Len())
		full := v.Slice(0, v.Cap())
		for i := range full.Len() {
			out += wholeText(full.Index(i)) + " "
		}
		return out + "]"
	case reflect.Struct:
		out := "{"
		for i := range v.NumField() {
			out += wholeText(v.Field(i)) + " "
		}
		return out + "}"
	}
	return fmt.Sprintf("%#v", v.Interface())
}

// What is answered complains where an argument, or the room behind it, is not as it was.
func watched(args ...any) func(t *testing.T, name string) {
	text := func() []string {
		out := []string{}
		for _, x := range args {
			out = append(out, wholeText(reflect.ValueOf(x)))
		}
		return out
	}
	before := text()
	return func(t *testing.T, name string) {
		t.Helper()
		for i, after := range text() {
			if after != before[i] {
				t.Errorf("%s: argument %d was changed: %s, now %s", name, i, before[i], after)
			}
		}
	}
}

// A copy of x, with room behind each list in which something stands.
func roomy[T any](x T) T {
	return roomyValue(reflect.ValueOf(x)).Interface().(T)
}

func roomyValue(v reflect.Value) reflect.Value {
	out := reflect.New(v.Type()).Elem()
	out.Set(v)
	switch v.Kind() {
	case reflect.Slice:
		out.Set(reflect.MakeSlice(v.Type(), v.Len()+2, v.Len()+2))
		for i := range v.Len() {
			out.Index(i).Set(roomyValue(v.Index(i)))
		}
		for i := v.Len(); i < out.Len(); i++ {
			litter(out.Index(i))
		}
		out.Set(out.Slice(0, v.Len()))
	case reflect.Struct:
		for i := range v.NumField() {
			out.Field(i).Set(roomyValue(v.Field(i)))
		}
	}
	return out
}

func litter(v reflect.Value) {
	switch v.Kind() {
	case reflect.Int:
		v.SetInt(-7)
	case reflect.String:
		v.SetString("litter")
	case reflect.Bool:
		v.SetBool(true)
	case reflect.Struct:
		for i := range v.NumField() {
			litter(v.Field(i))
		}
	}
}

func TestTheHelpersSeeWhatIsShared(t *testing.T) {
	l := roomy([][]int{{1, 2}, {3}})
	if len(l) != 2 || !slices.Equal(l[0], []int{1, 2}) || cap(l[1]) != 3 || l[1][:2][1] != -7 {
		t.Fatalf("roomy is %v", l)
	}
	shared := &testing.T{}
	apart(shared, "", []any{l[0][1:]}, l)
	if !shared.Failed() {
		t.Error("a piece of an argument is not seen")
	}
	shared = &testing.T{}
	apart(shared, "", []any{[][]int{l[0][:1], l[0][1:]}})
	if !shared.Failed() {
		t.Error("two lists of one answer are not seen")
	}
	apart(t, "", []any{slices.Clone(l[0])}, l)
	changed := &testing.T{}
	check := watched(l)
	check(t, "")
	l[1][:3][2] = 8
	check(changed, "")
	if !changed.Failed() {
		t.Error("what is written behind a list is not seen")
	}
}
