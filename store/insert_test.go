package store_test

import (
	"testing"

	"proctor/api"
)

// P3.2: the fields that are set have their values, the others VNull; Born and all Stamps are the clock.
func TestInsert(t *testing.T) {
	s := made(t, 20)
	for _, c := range []struct {
		name   string
		set    []api.Given
		stated bool
		want   string
	}{
		{"A", nil, true, "#1 A [null null] [1 1] 1 true"},
		{"A", x(5), false, "#2 A [5 null] [2 2] 2 false"},
		{"A", set(given("l", list(num(1), list(handle(99)))), given("x", num(-3))), true, "#3 A [-3 [1, [#99]]] [3 3] 3 true"},
		{"C", nil, true, "#4 C [] [] 4 true"},
		{"C", set(), false, "#5 C [] [] 5 false"},
		{"D", set(given("t", text("a\nb")), given("b", truth(true)), given("x", num(0))), true, `#6 D [0 null null true "a\nb"] [6 6 6 6 6] 6 true`},
		{"B", set(given("r", handle(6))), true, "#7 B [null null #6] [7 7 7] 7 true"},
		{"D", set(given("r", handle(7)), given("l", none)), true, "#8 D [null null #7 null null] [8 8 8 8 8] 8 true"},
		{"E", set(given("x", handle(1000))), true, "#9 E [null #1000] [9 9] 9 true"},
		{"E", set(given("s", handle(9)), given("x", text(""))), true, `#10 E [#9 ""] [10 10] 10 true`},
		{"F", set(given("x", list())), true, "#11 F [null []] [11 11] 11 true"},
		{"E", set(given("s", handle(11)), given("x", truth(false))), true, "#12 E [#11 false] [12 12] 12 true"},
	} {
		h, err := s.Insert(c.name, c.set, c.stated)
		if got := fact(s, h); got != c.want || err != api.OK {
			t.Errorf("%s, %d; not %s", got, err, c.want)
		}
	}
}

// P3.2: what bars an insertion, and which error is told if several do; nothing has changed behind it.
func TestInsertBars(t *testing.T) {
	s := made(t, 4)
	insert(t, s, "A", x(5)...)
	insert(t, s, "B")
	insert(t, s, "D")
	remove(t, s, 3)
	insert(t, s, "E")
	want := told(s)
	bars := func(name string, l []api.Given, err api.Errno) {
		t.Helper()
		if h, got := s.Insert(name, l, true); h != 0 || got != err || told(s) != want {
			t.Errorf("Insert(%s, %v): %d, %d; not %d", name, l, h, got, err)
		}
	}
	for _, name := range []string{"", "G", "a", "AB", "x", "class", "\xff"} {
		bars(name, nil, api.ErrClass)
		bars(name, x(1), api.ErrClass)
		bars(name, set(given("q", none)), api.ErrClass)
		bars(name, set(given("x", handle(0))), api.ErrClass)
	}
	for _, c := range []struct {
		name string
		set  []api.Given
	}{
		{"A", set(given("r", none))}, {"A", set(given("", none))}, {"A", set(given("X", num(1)))}, {"A", set(given("A", none))},
		{"C", x(1)}, {"C", set(given("x", none))}, {"B", set(given("t", none))}, {"A", set(given("x", num(1)), given("q", none))},
		{"A", set(given("x", num(1)), given("x", num(1)))}, {"A", set(given("x", num(1)), given("x", num(2)))}, {"A", set(given("x", none), given("x", none))},
		{"A", set(given("x", num(1)), given("l", none), given("x", none))}, {"D", set(given("t", none), given("b", none), given("t", none))},
		{"A", set(given("x", text("")))}, {"A", set(given("x", truth(true)))}, {"A", set(given("x", list()))}, {"A", set(given("x", handle(1)))},
		{"A", set(given("l", num(1)))}, {"D", set(given("b", num(1)))}, {"D", set(given("t", num(1)))}, {"D", set(given("t", text("")), given("b", text("")))},
		{"B", set(given("r", num(2)))}, {"B", set(given("r", list(handle(2))))},
		{"B", set(given("r", handle(1)))}, {"B", set(given("r", handle(3)))}, {"B", set(given("r", handle(4)))}, {"B", set(given("r", handle(5)))}, {"B", set(given("r", handle(1<<62)))},
		{"E", set(given("s", handle(5)))}, {"F", set(given("s", handle(2)))},
	} {
		bars(c.name, c.set, api.ErrField)
	}
	for _, v := range barred() {
		bars("E", set(given("x", v)), api.ErrField)
		bars("A", set(given("l", v)), api.ErrField)
		bars("A", set(given("x", num(1)), given("l", v)), api.ErrField)
		bars("B", set(given("r", v)), api.ErrField)
	}
}

// P3.2: of a full store the class and the fields are asked first.
func TestInsertFull(t *testing.T) {
	s := made(t, 2)
	insert(t, s, "A")
	insert(t, s, "B")
	want := told(s)
	for _, c := range []struct {
		name string
		set  []api.Given
		err  api.Errno
	}{
		{"A", nil, api.ErrFull}, {"C", nil, api.ErrFull}, {"B", set(given("r", handle(2))), api.ErrFull}, {"A", x(1), api.ErrFull},
		{"G", nil, api.ErrClass}, {"G", x(1), api.ErrClass}, {"A", set(given("q", none)), api.ErrField}, {"B", set(given("r", handle(3))), api.ErrField},
		{"A", set(given("x", none), given("x", none)), api.ErrField}, {"A", set(given("x", text("a"))), api.ErrField},
	} {
		if h, err := s.Insert(c.name, c.set, false); h != 0 || err != c.err || told(s) != want {
			t.Errorf("Insert(%s, %v): %d, %d", c.name, c.set, h, err)
		}
	}
}

// P3.2, DOC.md: a handle is never given again, whatever goes or is barred.
func TestHandles(t *testing.T) {
	s := made(t, 3)
	for i := range 50 {
		s.Insert("G", nil, true)
		insert(t, s, "A")
		s.Insert("A", set(given("q", none)), true)
		if i%2 == 0 {
			update(t, s, i+1, x(int64(i+1))...)
		}
		remove(t, s, i+1)
	}
	if h := insert(t, s, "C"); h != 51 || s.Clock() != 50+25+50+1 {
		t.Errorf("handle %d, clock %d", h, s.Clock())
	}
	if got := fact(s, 51); got != "#51 C [] [] 126 true" {
		t.Error(got)
	}
}

// P3.2: as many fields as may be, set all at once, the last one twice.
func TestInsertMostFields(t *testing.T) {
	s, l := wide(t)
	h := insert(t, s, "W", l...)
	f, _ := s.Get(h)
	for i, v := range f.Vals {
		if v.Int != int64(i) {
			t.Errorf("field %d: %v", i, v)
		}
	}
	if h, err := s.Insert("W", append(l, l[len(l)-1]), true); h != 0 || err != api.ErrField {
		t.Errorf("the last one twice: %d, %d", h, err)
	}
	if mask := update(t, s, h, l...); mask != 0 {
		t.Errorf("the same: %d", mask)
	}
	l[0].V, l[61].V = none, none
	if mask := update(t, s, h, l...); mask != 1|1<<61 {
		t.Errorf("the first and the last: %d", mask)
	}
	for i := range l {
		l[i].V = text("")
	}
	if mask := update(t, s, h, l...); mask != 1<<62-1 {
		t.Errorf("all: %d", mask)
	}
}
