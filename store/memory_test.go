package store_test

import (
	"slices"
	"sync"
	"testing"

	"proctor/api"
	"proctor/class"
	"proctor/store"
	"proctor/value"
)

// filled has a store with lists in lists, equal contents, and a change behind it.
func filled(t *testing.T) *store.Store {
	s := made(t, 9)
	insert(t, s, "A", given("x", num(5)), given("l", list(num(1), list(text("a"), list()))))
	insert(t, s, "D", given("t", text("t")), given("l", list(num(1), list(text("a"), list()))))
	insert(t, s, "A", given("l", list(num(1), list(text("a"), list()))), given("x", num(5)))
	insert(t, s, "C")
	insert(t, s, "B", given("r", handle(2)))
	update(t, s, 2, given("l", list(list(num(7)), list(num(8)))))
	return s
}

// spoil writes all over a list of values, at all depths, as far as its memory goes.
func spoil(l []api.Value) {
	l = l[:cap(l)]
	for i := range l {
		spoil(l[i].List)
		l[i] = num(-99)
	}
}

// P3.6, R2: what is handed in is not kept: a store stays as it is when the caller writes all over it.
func TestMemoryKept(t *testing.T) {
	l := set(given("l", list(num(1), list(text("a"), list()))), given("x", num(5)))
	s := made(t, 9)
	insert(t, s, "A", l...)
	want := told(s)
	spoil(l[0].V.List)
	l[0], l[1] = api.Given{}, api.Given{}
	if told(s) != want {
		t.Error("Insert keeps what is handed in")
	}
	l = set(given("l", list(list(num(2)))))
	update(t, s, 1, l...)
	want = told(s)
	spoil(l[0].V.List)
	l[0] = api.Given{}
	if told(s) != want {
		t.Error("Update keeps what is handed in")
	}
}

// P3.6, R2: a list that is handed in for two facts, or two fields, is not shared by them.
func TestMemoryShared(t *testing.T) {
	s := made(t, 9)
	v := list(list(num(1)))
	insert(t, s, "A", given("l", v))
	insert(t, s, "A", given("l", v))
	insert(t, s, "E", given("x", list(v, v)))
	want := told(s)
	f, _ := s.Get(3)
	f.Vals[1].List[0].List[0].List[0] = num(2)
	if !value.Same(f.Vals[1].List[1], v) || !value.Same(v, list(list(num(1)))) || told(s) != want {
		t.Error("two lists of one answer share memory")
	}
}

// P3.6, R2: what is handed in is not changed, nor what lies behind a list's length.
func TestMemoryArguments(t *testing.T) {
	whole := set(given("l", list(num(1), num(2))), given("x", num(5)), given("behind", none))
	inner := whole[0].V.List
	whole[0].V.List = inner[:1]
	same := func() bool {
		return whole[0].Field == "l" && whole[1].Field == "x" && whole[2].Field == "behind" && len(whole[0].V.List) == 1 && value.Same(list(inner...), list(num(1), num(2))) && value.Same(whole[1].V, num(5))
	}
	s := made(t, 9)
	insert(t, s, "A", whole[:2]...)
	if mask := update(t, s, 1, whole[:2]...); mask != 0 || !same() {
		t.Error(mask, whole)
	}
	insert(t, s, "A")
	if mask := update(t, s, 2, whole[:2]...); mask != 3 || !same() || fact(s, 2) != "#2 A [5 [1]] [3 3] 2 true" {
		t.Error(mask, whole, fact(s, 2))
	}
	vals := []api.Value{num(5), list(num(1)), none}
	if l := s.Equal("A", vals[:2]); !slices.Equal(l, []int{1, 2}) || !value.Same(list(vals...), list(num(5), list(num(1)), none)) {
		t.Error(l, vals)
	}
}

// P3.6, R2: what is told is the caller's own, as far as its memory goes.
func TestMemoryAnswers(t *testing.T) {
	s := filled(t)
	want := told(s)
	all := s.All()
	for i, f := range all {
		g, _ := s.Get(f.Handle)
		equal := s.Equal(f.Class, f.Vals)
		spoil(g.Vals)
		clear(g.Stamps[:cap(g.Stamps)])
		clear(equal[:cap(equal)])
		if told(s) != want {
			t.Fatalf("%d: Get or Equal shares memory", f.Handle)
		}
		spoil(f.Vals)
		clear(f.Stamps[:cap(f.Stamps)])
		for _, later := range all[i+1:] {
			if line(later) != fact(s, later.Handle) {
				t.Errorf("%d and %d share memory", f.Handle, later.Handle)
			}
		}
		if told(s) != want {
			t.Fatalf("%d: All shares memory", f.Handle)
		}
	}
	for _, c := range family() {
		l := s.Extent(c.Name)
		clear(l[:cap(l)])
		if told(s) != want {
			t.Fatalf("%s: Extent shares memory", c.Name)
		}
	}
}

// P3.6, R2: what has been told stays as it is, whatever the store does behind it.
func TestMemoryTold(t *testing.T) {
	s := filled(t)
	f, _ := s.Get(1)
	all, extent, equal := s.All(), s.Extent("A"), s.Equal("C", nil)
	was := line(f)
	update(t, s, 1, given("x", num(6)), given("l", none))
	insert(t, s, "C")
	insert(t, s, "A")
	remove(t, s, 3)
	remove(t, s, 4)
	if line(f) != was || line(all[0]) != was || len(all) != 5 || !slices.Equal(extent, []int{1, 2, 3, 5}) || !slices.Equal(equal, []int{4}) {
		t.Error(line(f), extent, equal)
	}
}

// P3.6, R2: stores of one table keep to themselves, and another table that is laid in the place of theirs is not theirs.
func TestMemoryTable(t *testing.T) {
	a := table(t, family())
	s, _ := store.New(a, 9)
	other, _ := store.New(a, 9)
	insert(t, s, "A", x(1)...)
	if other.Len() != 0 || other.Clock() != 0 || other.Extent("A") != nil {
		t.Error("two stores share facts")
	}
	want := told(s)
	*a = *table(t, []api.Class{{Name: "A"}})
	if told(s) != want || insert(t, s, "D", x(1)...) != 2 {
		t.Error("the table is the caller's")
	}
	*a = class.Table{}
	if insert(t, other, "D", x(1)...) != 1 || other.Extent("A") == nil {
		t.Error("the table is the caller's")
	}
}

// P3.6, R3: calls end on what lies far out: long sets, long names, a list as long as may be in one as deep as may be.
func TestEnds(t *testing.T) {
	s := made(t, 2)
	long := slices.Repeat(x(1), 1<<16)
	if h, err := s.Insert("A", long, true); h != 0 || err != api.ErrField {
		t.Errorf("%d, %d", h, err)
	}
	deep := list(make([]api.Value, api.MaxList)...)
	for range api.MaxDeep - 1 {
		deep = list(deep)
	}
	insert(t, s, "A", given("l", deep))
	if mask, err := s.Update(1, long); mask != 0 || err != api.ErrField {
		t.Errorf("%d, %d", mask, err)
	}
	if l := s.Equal("A", []api.Value{none, deep}); !slices.Equal(l, []int{1}) {
		t.Errorf("%v", l)
	}
	if l := s.Equal("A", make([]api.Value, 1<<20)); l != nil {
		t.Errorf("%v", l)
	}
	ring := list(none)
	ring.List[0] = ring
	if h, err := s.Insert("A", set(given("l", ring)), true); h != 0 || err != api.ErrField || s.Equal("A", []api.Value{none, ring}) != nil {
		t.Errorf("a value that holds itself: %d, %d", h, err)
	}
}

// P3.6, R6: many that ask one store at once are told what one is told alone.
func TestTogether(t *testing.T) {
	s := filled(t)
	want := told(s)
	var all sync.WaitGroup
	for range 8 {
		all.Go(func() {
			for range 20 {
				if told(s) != want {
					t.Error("told otherwise")
				}
			}
		})
	}
	all.Wait()
}
