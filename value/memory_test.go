package value_test

import (
	"slices"
	"testing"

	"proctor/api"
	"proctor/value"
)

// roomy copies v so that behind each list's length stands a mark that nobody may touch.
func roomy(v api.Value) api.Value {
	if v.Kind != api.VList {
		return v
	}
	l := make([]api.Value, 0, len(v.List)+1)
	for _, w := range v.List {
		l = append(l, roomy(w))
	}
	v.List = append(l, text("mark"))[:len(l)]
	return v
}

func marked(v api.Value) bool {
	if v.Kind != api.VList {
		return true
	}
	return value.Same(v.List[:len(v.List)+1][len(v.List)], text("mark")) && !slices.ContainsFunc(v.List, func(w api.Value) bool { return !marked(w) })
}

// lists gathers the lists of v, at all depths, each as far as its memory goes.
func lists(v api.Value) [][]api.Value {
	out := [][]api.Value{v.List[:cap(v.List)]}
	for _, w := range v.List {
		out = append(out, lists(w)...)
	}
	return out
}

// spoil writes all over the lists of v, and asks that none of them is written over by way of another.
func spoil(t *testing.T, v api.Value) {
	t.Helper()
	all := lists(v)
	for i, l := range all {
		for k := range l {
			l[k] = num(int64(i))
		}
	}
	for i, l := range all {
		for k := range l {
			if l[k].Int != int64(i) {
				t.Error("two lists of an answer share memory")
			}
		}
	}
}

// apart asks a call whose arguments are l: they stay as they are, and stay so when the answer is written over.
func apart(t *testing.T, call func(l []api.Value) (api.Value, api.Errno), l ...api.Value) {
	t.Helper()
	args := roomy(list(l...))
	got, err := call(args.List)
	if err != api.OK {
		t.Fatal(err)
	}
	spoil(t, got)
	if !value.Same(args, list(l...)) || !marked(args) {
		t.Error("an argument has changed")
	}
}

func applied(op int) func(l []api.Value) (api.Value, api.Errno) {
	return func(l []api.Value) (api.Value, api.Errno) { return value.Apply(op, l) }
}

func aggregated(fn string) func(l []api.Value) (api.Value, api.Errno) {
	return func(l []api.Value) (api.Value, api.Errno) { return value.Aggregate(fn, l) }
}

// P1.8, R2: arguments are neither changed nor kept; answers are new memory, each list its own.
func TestMemory(t *testing.T) {
	deep := list(list(num(2), list(num(3))), list(), num(1), list(num(0)))
	apart(t, applied(api.EAdd), deep, deep)
	apart(t, applied(api.EAdd), list(), list())
	apart(t, applied(api.EAdd), list(), deep)
	apart(t, applied(api.EAdd), deep, list())
	apart(t, applied(api.EHas), deep, list())
	apart(t, applied(api.EEq), deep, deep)
	apart(t, applied(api.ESize), deep)
	for _, fn := range []string{"min", "max", "list", "count"} {
		apart(t, aggregated(fn), list(num(2), list()), list(num(1), list(num(5))), list(), deep)
		apart(t, aggregated(fn), list())
		apart(t, aggregated(fn), deep, deep)
	}
	apart(t, aggregated("sum"), num(3), num(2), num(1))
}

// P1.8, R2: one list that stands twice in an argument is two lists of the answer.
func TestMemorySharedArgument(t *testing.T) {
	shared := list(num(5))
	twice := list(shared, shared)
	got, _ := value.Apply(api.EAdd, []api.Value{twice, twice})
	spoil(t, got)
	got, _ = value.Aggregate("list", []api.Value{twice, twice})
	spoil(t, got)
	got, _ = value.Aggregate("max", []api.Value{twice})
	spoil(t, got)
	if !value.Same(twice, list(list(num(5)), list(num(5)))) {
		t.Error("an argument has changed")
	}
}

// P1.8, R2: an empty list of an answer does not lead into the argument's memory.
func TestMemoryEmptyList(t *testing.T) {
	back := []api.Value{text("mark")}
	empty := list(back[:0]...)
	got, err := value.Aggregate("min", []api.Value{empty})
	if err != api.OK || cap(got.List) != 0 {
		t.Error("an empty list is kept")
	}
	plain := num(1)
	plain.List = back[:0]
	got, err = value.Aggregate("max", []api.Value{plain})
	if err != api.OK || cap(got.List) != 0 {
		t.Error("an empty list is kept")
	}
}

// P1.8, R2: bytes that are handed in or told are no part of anything else.
func TestMemoryBytes(t *testing.T) {
	v := list(text("abc"), list(num(1)), list())
	first, _ := value.Encode(v)
	second, _ := value.Encode(v)
	got, err := value.Decode(first[:len(first):len(first)])
	clear(first[:cap(first)])
	if err != api.OK || !value.Same(got, v) {
		t.Error("bytes are kept")
	}
	again, err := value.Decode(second)
	if err != api.OK || !value.Same(again, v) {
		t.Error("two encodings share memory")
	}
	spoil(t, got)
	if !value.Same(again, v) {
		t.Error("two answers share memory")
	}
}

// P1.8, R3: a value that holds itself has no end, and the calls that ask whether it may be end.
func TestEnds(t *testing.T) {
	ring := list(none, none)
	ring.List[0], ring.List[1] = ring, ring
	if value.Check(ring) || value.Text(ring) != "" {
		t.Error("a ring may not be")
	}
	if _, err := value.Encode(ring); err != api.ErrArg {
		t.Error(err)
	}
	expect(t, api.EEq, []api.Value{ring, ring}, none, api.ErrArg)
	if _, err := value.Aggregate("count", []api.Value{ring}); err != api.ErrArg {
		t.Error(err)
	}
}
