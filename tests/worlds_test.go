package tests

import (
	"fmt"
	"reflect"
	"testing"

	"loop.example/g00488/impl"
)

// Helpers for worlds, and for whatever else has many parts.

// Where two values differ, and how ("": nowhere). An empty list and nil are the same.
func difference(a, b reflect.Value, where string) string {
	switch a.Kind() {
	case reflect.Slice:
		if a.Len() != b.Len() {
			return fmt.Sprintf("%s has %d: %+v, and %d: %+v", where, a.Len(), a.Interface(), b.Len(), b.Interface())
		}
		for i := range a.Len() {
			if d := difference(a.Index(i), b.Index(i), fmt.Sprintf("%s[%d]", where, i)); d != "" {
				return d
			}
		}
	case reflect.Struct:
		for i := range a.NumField() {
			if d := difference(a.Field(i), b.Field(i), where+"."+a.Type().Field(i).Name); d != "" {
				return d
			}
		}
	default:
		if a.Interface() != b.Interface() {
			return fmt.Sprintf("%s is %#v, and %#v", where, a.Interface(), b.Interface())
		}
	}
	return ""
}

func differs[T any](a, b T) string {
	return difference(reflect.ValueOf(a), reflect.ValueOf(b), "it")
}

func cloneOf[T any](x T) T {
	return cloneValue(reflect.ValueOf(x)).Interface().(T)
}

func cloneValue(v reflect.Value) reflect.Value {
	out := reflect.New(v.Type()).Elem()
	out.Set(v)
	switch v.Kind() {
	case reflect.Slice:
		out.Set(reflect.MakeSlice(v.Type(), v.Len(), v.Len()))
		for i := range v.Len() {
			out.Index(i).Set(cloneValue(v.Index(i)))
		}
	case reflect.Struct:
		for i := range v.NumField() {
			out.Field(i).Set(cloneValue(v.Field(i)))
		}
	}
	return out
}

// What is done to a world, and whether it is.
type act func(w impl.World) (impl.World, bool)

// One step of a task, by what asks for it.
func of(step func(w impl.World, k int) (impl.World, bool), k int) act {
	return func(w impl.World) (impl.World, bool) { return step(w, k) }
}

func offer(k int, s impl.Span) act {
	return func(w impl.World) (impl.World, bool) { return impl.Offer(w, k, s) }
}

// Complains unless it is done, and is what change makes of w, with a Time that is one more; w and what comes of it are right, and share no memory.
func does(t *testing.T, name string, w impl.World, do act, change func(w *impl.World)) impl.World {
	t.Helper()
	if !impl.WorldOk(w) {
		t.Fatalf("%s: it is not right to begin with: %+v", name, w)
	}
	want := cloneOf(w)
	want.Time++
	change(&want)
	given := roomy(w)
	check := watched(given)
	got, ok := do(given)
	check(t, name)
	apart(t, name, []any{got}, given)
	if !ok {
		t.Errorf("%s: it is refused", name)
	}
	if d := differs(got, want); d != "" {
		t.Errorf("%s: %s", name, d)
	}
	if !impl.WorldOk(got) {
		t.Errorf("%s: what comes of it is not right: %+v", name, got)
	}
	return got
}

// Complains unless it is refused, and w is as it was, in new memory.
func refuses(t *testing.T, name string, w impl.World, do act) {
	t.Helper()
	given := roomy(w)
	check := watched(given)
	got, ok := do(given)
	check(t, name)
	apart(t, name, []any{got}, given)
	if ok {
		t.Errorf("%s: it is not refused", name)
	}
	if d := differs(got, w); d != "" {
		t.Errorf("%s: %s", name, d)
	}
}

// A right world at a time, of the trails, each with a Timer, at a Time of 100.
func worldOf(c impl.Conf, now int, trails ...impl.Trail) impl.World {
	w := impl.WorldNew(c)
	w.Time, w.W.Now, w.Next, w.St = 100, now, 1, stripesOf(c.Stripes, trails...)
	for _, x := range trails {
		lay(&w.W, impl.Timer{Id: x.Stamp, Trace: x.Id, At: max(x.First+c.Wait, now+1)})
		w.Used += impl.TotalOf(x.Spans)
		w.Next = max(w.Next, x.Stamp+1)
	}
	return w
}

// Lets the task k be about something: it holds the locks that it has to, and has a deed of its own, begun at 50 at the time 1.
func letBe(w *impl.World, k int, x impl.Task) {
	d := impl.Deed{Op: impl.DeOffer, Task: k, S: cloneSpan(x.S), Now: 1, Inv: 50, Lin: -1, Res: -1}
	if x.Op == impl.OpJudge {
		d = impl.Deed{Op: impl.DeJudge, Task: k, Trace: x.Trace, Stamp: x.Stamp, Now: 1, Inv: 50, Lin: -1, Res: -1}
	}
	holds := 0
	switch {
	case x.Op == impl.OpOffer && x.Pc == 1:
		holds = x.S.Trace
	case x.Op == impl.OpOffer && x.Pc == 3, x.Op == impl.OpJudge && (x.Pc == 1 || x.Pc == 2):
		holds = x.Trace
	case x.Op == impl.OpJudge && x.Pc == 3:
		d.Lin, d.Keep, d.N = 60, true, 9
	}
	if holds > 0 {
		w.St[wantedMix(holds)%len(w.St)].Held = k
	}
	if x.Op == impl.OpJudge && x.Pc == 2 {
		w.RuleHeld = k
	}
	x.H = len(w.Deeds)
	w.Deeds = append(w.Deeds, d)
	w.Tasks[k] = x
}

// Worlds in which something is not as told, but somebody could go on for all the rest.
func wrongWorlds(right impl.World) []impl.World {
	changes := []func(w *impl.World){
		func(w *impl.World) { *w = impl.World{} },
		func(w *impl.World) { w.C.Wait = 0 },
		func(w *impl.World) { w.Time = -1 },
		func(w *impl.World) { w.Used++ },
		func(w *impl.World) { w.B.Tokens = -1 },
		func(w *impl.World) { w.W.Now = impl.MaxTime + 1 },
		func(w *impl.World) { w.Tasks = append(w.Tasks, impl.Task{}) },
		func(w *impl.World) { w.Tasks = nil },
		func(w *impl.World) { w.Deeds = append(w.Deeds, impl.Deed{}) },
		func(w *impl.World) { w.Deeds = nil; w.Tasks[0] = impl.Task{Op: impl.OpOffer, S: thing(1, 1)} },
		func(w *impl.World) { w.Next = 0 },
		func(w *impl.World) { w.St = nil },
		func(w *impl.World) { w.Out = append(w.Out, impl.Item{}) },
	}
	out := []impl.World{}
	for _, change := range changes {
		w := cloneOf(right)
		change(&w)
		out = append(out, w)
	}
	return out
}

func refusesWrongWorlds(t *testing.T, name string, right impl.World, do act) {
	t.Helper()
	if _, ok := do(right); !ok {
		t.Errorf("%s: it is refused in a right world", name)
	}
	for i, w := range wrongWorlds(right) {
		if impl.WorldOk(w) {
			t.Fatalf("the wrong world %d is right", i)
		}
		refuses(t, fmt.Sprintf("%s, wrong world %d", name, i), w, do)
	}
}

func TestTheHelpersSeeWhatDiffers(t *testing.T) {
	w := fullWorld()
	if d := differs(w, cloneOf(w)); d != "" {
		t.Error(d)
	}
	apart(t, "cloneOf", []any{cloneOf(w)}, w)
	x := cloneOf(w)
	x.Tasks[4].Hand[0].S.Attrs[0].N++
	if d := differs(w, x); d != "it.Tasks[4].Hand[0].S.Attrs[0].N is 1, and 2" {
		t.Error(d)
	}
	if differs(w.Due, w.Due[:1]) == "" || differs([]int{}, nil) != "" {
		t.Error("lists are not told apart as they should be")
	}
}
