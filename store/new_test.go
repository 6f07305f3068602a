package store_test

import (
	"math"
	"testing"

	"proctor/api"
	"proctor/class"
	"proctor/store"
)

// P3.1: a store without a table, or for fewer than 1 or more than MaxFacts facts, is none.
func TestNewBars(t *testing.T) {
	a := table(t, family())
	for _, c := range []struct {
		table *class.Table
		most  int
	}{{nil, 1}, {nil, 0}, {nil, api.MaxFacts}, {a, 0}, {a, -1}, {a, api.MaxFacts + 1}, {a, math.MaxInt64}, {a, math.MinInt64}} {
		if s, err := store.New(c.table, c.most); s != nil || err != api.ErrArg {
			t.Errorf("%v, %d: %d", c.table, c.most, err)
		}
	}
}

// P3.1: a new store has nothing, and its clock stands at 0; a table without a class serves, too.
func TestNewEmpty(t *testing.T) {
	for _, l := range [][]api.Class{nil, family()} {
		for _, most := range []int{1, 2, api.MaxFacts - 1, api.MaxFacts} {
			s, err := store.New(table(t, l), most)
			if s == nil || err != api.OK {
				t.Fatalf("%d: %d", most, err)
			}
			if s.Len() != 0 || s.Clock() != 0 || s.All() != nil || s.Extent("A") != nil || s.Equal("C", nil) != nil {
				t.Errorf("%d: %s", most, told(s))
			}
			if _, ok := s.Get(1); ok || s.Delete(1) != api.ErrGone || s.Clock() != 0 {
				t.Error("a fact of an empty store")
			}
		}
	}
	s, _ := store.New(table(t, nil), 1)
	if h, err := s.Insert("A", nil, true); h != 0 || err != api.ErrClass {
		t.Errorf("no class at all: %d, %d", h, err)
	}
}

// P3.1: Len counts the facts that are there, Clock all that has been done.
func TestLenClock(t *testing.T) {
	s := made(t, 9)
	for _, c := range []struct {
		do         func()
		len, clock int
	}{
		{func() { insert(t, s, "A") }, 1, 1},
		{func() { insert(t, s, "A", x(1)...) }, 2, 2},
		{func() { update(t, s, 1, x(1)...) }, 2, 3},
		{func() { update(t, s, 1, x(1)...) }, 2, 3},
		{func() { remove(t, s, 1) }, 1, 4},
		{func() { s.Delete(1) }, 1, 4},
		{func() { insert(t, s, "C") }, 2, 5},
		{func() { remove(t, s, 3) }, 1, 6},
		{func() { remove(t, s, 2) }, 0, 7},
	} {
		c.do()
		if s.Len() != c.len || s.Clock() != c.clock {
			t.Errorf("%d facts, clock %d; not %d, %d", s.Len(), s.Clock(), c.len, c.clock)
		}
	}
}

// P3.2: a store for one fact is full with one, and takes the next when that is gone.
func TestFullOfOne(t *testing.T) {
	s := made(t, 1)
	for i := range 5 {
		if h, err := s.Insert("C", nil, false); h != i+1 || err != api.OK {
			t.Fatalf("%d: %d, %d", i, h, err)
		}
		want := told(s)
		if h, err := s.Insert("A", x(1), true); h != 0 || err != api.ErrFull || told(s) != want {
			t.Errorf("%d: one more: %d, %d", i, h, err)
		}
		remove(t, s, i+1)
	}
}

// P3.2: as many facts as any store may have, and no more; those that go make room.
func TestFullOfMost(t *testing.T) {
	s := made(t, api.MaxFacts)
	for i := range api.MaxFacts {
		if h := insert(t, s, []string{"A", "D", "B"}[i%3], x(int64(i%7))...); h != i+1 {
			t.Fatalf("handle %d of fact %d", h, i)
		}
	}
	if h, err := s.Insert("C", nil, true); h != 0 || err != api.ErrFull {
		t.Errorf("one more: %d, %d", h, err)
	}
	l := s.Extent("A")
	if len(l) != api.MaxFacts || s.Len() != api.MaxFacts || s.Clock() != api.MaxFacts || len(s.All()) != api.MaxFacts {
		t.Fatalf("%d of the extent, %d, clock %d", len(l), s.Len(), s.Clock())
	}
	for i, h := range l {
		if h != i+1 {
			t.Fatalf("%d stands at %d", h, i)
		}
	}
	if mask, err := s.Update(1, x(9)); mask != 1 || err != api.OK {
		t.Errorf("an update of a full store: %d, %d", mask, err)
	}
	remove(t, s, 30000)
	if h, err := s.Insert("C", nil, true); h != api.MaxFacts+1 || err != api.OK {
		t.Errorf("the room of one that is gone: %d, %d", h, err)
	}
	if _, err := s.Insert("C", nil, true); err != api.ErrFull {
		t.Errorf("full again: %d", err)
	}
}
