package store_test

import (
	"fmt"
	"math"
	"testing"

	"proctor/api"
)

// P3.3: the fields that change have the clock as their stamp, and the mask tells them; an update that changes nothing does nothing.
func TestUpdate(t *testing.T) {
	s := made(t, 9)
	insert(t, s, "A", x(5)...)
	insert(t, s, "D", given("l", list(num(1), list())))
	for _, c := range []struct {
		handle int
		set    []api.Given
		mask   uint64
		want   string
		clock  int
	}{
		{1, nil, 0, "#1 A [5 null] [1 1] 1 true", 2},
		{1, x(5), 0, "#1 A [5 null] [1 1] 1 true", 2},
		{1, set(given("l", none)), 0, "#1 A [5 null] [1 1] 1 true", 2},
		{1, set(given("l", none), given("x", num(5))), 0, "#1 A [5 null] [1 1] 1 true", 2},
		{1, x(6), 1, "#1 A [6 null] [3 1] 1 true", 3},
		{1, set(given("l", list()), given("x", num(6))), 2, "#1 A [6 []] [3 4] 1 true", 4},
		{1, set(given("l", list(none))), 2, "#1 A [6 [null]] [3 5] 1 true", 5},
		{1, set(given("l", none), given("x", none)), 3, "#1 A [null null] [6 6] 1 true", 6},
		{2, set(given("l", list(num(1), list()))), 0, "#2 D [null [1, []] null null null] [2 2 2 2 2] 2 true", 6},
		{2, set(given("l", list(num(1), list(none)))), 2, "#2 D [null [1, [null]] null null null] [2 7 2 2 2] 2 true", 7},
		{2, set(given("t", text("")), given("l", list(num(1), list(none))), given("b", truth(false))), 24, `#2 D [null [1, [null]] null false ""] [2 7 2 8 8] 2 true`, 8},
		{2, set(given("r", handle(2))), 4, `#2 D [null [1, [null]] #2 false ""] [2 7 9 8 8] 2 true`, 9},
		{2, set(given("r", handle(2)), given("b", truth(true))), 8, `#2 D [null [1, [null]] #2 true ""] [2 7 9 10 8] 2 true`, 10},
		{2, set(given("t", none), given("b", none), given("r", none), given("l", none), given("x", none)), 30, "#2 D [null null null null null] [2 11 11 11 11] 2 true", 11},
	} {
		mask, err := s.Update(c.handle, c.set)
		if got := fact(s, c.handle); mask != c.mask || err != api.OK || got != c.want || s.Clock() != c.clock {
			t.Errorf("%d, %d, clock %d: %s; not %d, clock %d: %s", mask, err, s.Clock(), got, c.mask, c.clock, c.want)
		}
	}
}

// P3.3: a justified fact stays one.
func TestUpdateStated(t *testing.T) {
	s := made(t, 2)
	s.Insert("A", nil, false)
	insert(t, s, "A")
	update(t, s, 1, x(1)...)
	update(t, s, 2, x(1)...)
	if fact(s, 1) != "#1 A [1 null] [3 1] 1 false" || fact(s, 2) != "#2 A [1 null] [4 2] 2 true" {
		t.Error(told(s))
	}
}

// P3.3: what bars a change; that a fact is gone is told first, and nothing has changed behind it.
func TestUpdateBars(t *testing.T) {
	s := made(t, 5)
	insert(t, s, "A", x(5)...)
	insert(t, s, "B")
	insert(t, s, "D")
	insert(t, s, "B", given("r", handle(3)))
	remove(t, s, 3)
	insert(t, s, "E")
	insert(t, s, "C")
	want := told(s)
	bars := func(handle int, l []api.Given, err api.Errno) {
		t.Helper()
		if mask, got := s.Update(handle, l); mask != 0 || got != err || told(s) != want {
			t.Errorf("Update(%d, %v): %d, %d; not %d", handle, l, mask, got, err)
		}
	}
	for _, h := range []int{0, -1, 3, 7, 1 << 32, 1<<32 + 1, math.MaxInt64, math.MinInt64} {
		bars(h, nil, api.ErrGone)
		bars(h, x(5), api.ErrGone)
		bars(h, set(given("q", none)), api.ErrGone)
	}
	for _, c := range []struct {
		handle int
		set    []api.Given
	}{
		{1, set(given("r", none))}, {1, set(given("q", num(1)))}, {1, set(given("", none))}, {6, x(1)}, {1, set(given("x", num(6)), given("q", none))},
		{1, set(given("x", num(5)), given("x", num(5)))}, {1, set(given("x", num(6)), given("x", num(7)))}, {1, set(given("l", list()), given("x", num(5)), given("l", none))},
		{1, set(given("x", text("5")))}, {1, set(given("x", num(6)), given("l", num(1)))}, {1, set(given("l", truth(false)))},
		{2, set(given("r", handle(1)))}, {2, set(given("r", handle(3)))}, {2, set(given("r", handle(5)))}, {2, set(given("r", handle(7)))}, {5, set(given("s", handle(2)))},
		{4, set(given("r", handle(3)))}, {4, set(given("x", num(1)), given("r", handle(3)))},
	} {
		bars(c.handle, c.set, api.ErrField)
	}
	for _, v := range barred() {
		bars(5, set(given("x", v)), api.ErrField)
		bars(1, set(given("x", num(6)), given("l", v)), api.ErrField)
	}
}

// P3.3: a full store's facts change and go as others do.
func TestUpdateFull(t *testing.T) {
	s := made(t, 1)
	insert(t, s, "A")
	if update(t, s, 1, x(1)...) != 1 || fact(s, 1) != "#1 A [1 null] [2 1] 1 true" {
		t.Error(told(s))
	}
}

// P3.3: a fact that goes is gone, once; those beside it stay, with what names it.
func TestDelete(t *testing.T) {
	s := made(t, 5)
	insert(t, s, "B")
	insert(t, s, "B", given("r", handle(1)), given("l", list(handle(1))))
	insert(t, s, "E", given("x", handle(1)))
	remove(t, s, 1)
	if s.Clock() != 4 || s.Len() != 2 || fact(s, 1) != "none" {
		t.Error(told(s))
	}
	if fact(s, 2) != "#2 B [null [#1] #1] [2 2 2] 2 true" || fact(s, 3) != "#3 E [null #1] [3 3] 3 true" {
		t.Errorf("what names it: %s, %s", fact(s, 2), fact(s, 3))
	}
	if update(t, s, 2, x(1)...) != 1 || fact(s, 2) != "#2 B [1 [#1] #1] [5 2 2] 2 true" {
		t.Errorf("another field of what names it: %s", fact(s, 2))
	}
	want := told(s)
	for _, h := range []int{1, 0, -1, 4, 1<<32 + 2, math.MaxInt64, math.MinInt64} {
		if err := s.Delete(h); err != api.ErrGone || told(s) != want {
			t.Errorf("Delete(%d): %d", h, err)
		}
	}
	if fmt.Sprint(s.Equal("B", []api.Value{num(1), list(handle(1)), handle(1)})) != "[2]" {
		t.Error("a content that names it")
	}
	remove(t, s, 3)
	remove(t, s, 2)
	if s.Len() != 0 || s.Clock() != 7 || s.All() != nil || s.Extent("B") != nil {
		t.Error(told(s))
	}
}
