package store_test

import (
	"fmt"
	"math/rand"
	"slices"
	"strings"
	"testing"

	"proctor/api"
	"proctor/class"
	"proctor/store"
	"proctor/value"
)

// P3.5: handles rise with the clock, no error moves it, and an extent has those of its subclasses.
func follows(t *testing.T, s *store.Store, a *class.Table) {
	t.Helper()
	var last api.Fact
	for _, f := range s.All() {
		if f.Handle <= last.Handle || f.Born <= last.Born || f.Born > s.Clock() || f.Handle > f.Born {
			t.Errorf("%s behind %s", line(f), line(last))
		}
		for i, stamp := range f.Stamps {
			if stamp < f.Born || stamp > s.Clock() {
				t.Errorf("%s: stamp %d", line(f), i)
			}
		}
		last = f
	}
	for _, c := range family() {
		subs, _ := a.Subs(c.Name)
		for _, sub := range subs {
			for _, h := range s.Extent(sub) {
				if !slices.Contains(s.Extent(c.Name), h) {
					t.Errorf("%d is in %s, not in %s", h, sub, c.Name)
				}
			}
		}
	}
}

// model is a store by its meaning: a list of facts that each question goes through.
type model struct {
	table             *class.Table
	most, clock, last int
	facts             []api.Fact
}

func (m *model) at(handle int) int {
	return slices.IndexFunc(m.facts, func(f api.Fact) bool { return f.Handle == handle })
}

func (m *model) wrong(name string, l []api.Given) bool {
	fields, _ := m.table.Fields(name)
	of := func(handle int) (string, bool) {
		i := m.at(handle)
		if i < 0 {
			return "", false
		}
		return m.facts[i].Class, true
	}
	for i, g := range l {
		k := slices.IndexFunc(fields, func(f api.Field) bool { return f.Name == g.Field })
		twice := slices.ContainsFunc(l[:i], func(h api.Given) bool { return h.Field == g.Field })
		if k < 0 || twice || !m.table.Fits(fields[k], g.V, of) {
			return true
		}
	}
	return false
}

// lay puts the values of l into f, and tells the mask of those that change.
func (m *model) lay(f *api.Fact, l []api.Given, clock int) (mask uint64) {
	for _, g := range l {
		i, _ := m.table.Index(f.Class, g.Field)
		if !value.Same(f.Vals[i], g.V) {
			f.Vals[i], f.Stamps[i] = g.V, clock
			mask |= 1 << i
		}
	}
	return mask
}

func (m *model) insert(name string, l []api.Given, stated bool) (int, api.Errno) {
	fields, err := m.table.Fields(name)
	if err != api.OK {
		return 0, err
	}
	if m.wrong(name, l) {
		return 0, api.ErrField
	}
	if len(m.facts) == m.most {
		return 0, api.ErrFull
	}
	m.clock++
	m.last++
	f := api.Fact{Handle: m.last, Class: name, Vals: make([]api.Value, len(fields)), Stated: stated, Born: m.clock}
	for range fields {
		f.Stamps = append(f.Stamps, m.clock)
	}
	m.lay(&f, l, m.clock)
	m.facts = append(m.facts, f)
	return m.last, api.OK
}

func (m *model) update(handle int, l []api.Given) (uint64, api.Errno) {
	i := m.at(handle)
	if i < 0 {
		return 0, api.ErrGone
	}
	if m.wrong(m.facts[i].Class, l) {
		return 0, api.ErrField
	}
	mask := m.lay(&m.facts[i], l, m.clock+1)
	if mask != 0 {
		m.clock++
	}
	return mask, api.OK
}

func (m *model) remove(handle int) api.Errno {
	i := m.at(handle)
	if i < 0 {
		return api.ErrGone
	}
	m.facts = slices.Delete(m.facts, i, i+1)
	m.clock++
	return api.OK
}

func (m *model) handles(which func(api.Fact) bool) []int {
	var out []int
	for _, f := range m.facts {
		if which(f) {
			out = append(out, f.Handle)
		}
	}
	return out
}

// told is what told tells of a store.
func (m *model) told() string {
	var out strings.Builder
	fmt.Fprintln(&out, "clock", m.clock, "facts", len(m.facts))
	for _, f := range m.facts {
		equal := m.handles(func(g api.Fact) bool { return f.Class == g.Class && slices.EqualFunc(f.Vals, g.Vals, value.Same) })
		fmt.Fprintln(&out, line(f), equal, true)
	}
	for _, c := range family() {
		fmt.Fprintln(&out, c.Name, m.handles(func(f api.Fact) bool { return m.table.Is(f.Class, c.Name) }))
	}
	return out.String()
}

// chance has operations of few values, so that contents meet, and now and then wrong ones.
type chance struct{ *rand.Rand }

func (c chance) pick(l ...api.Value) api.Value { return l[c.Intn(len(l))] }

func (c chance) value(field string, last int) api.Value {
	h := handle(int64(c.Intn(last+2) + 1))
	if c.Intn(12) == 0 {
		return c.pick(none, num(1), text("a"), truth(true), h, list(), handle(0))
	}
	switch field {
	case "x":
		return c.pick(none, num(0), num(1))
	case "l":
		return c.pick(none, list(), list(num(1)))
	case "b":
		return c.pick(none, truth(false), truth(true))
	case "t":
		return c.pick(none, text(""), text("a"))
	}
	return c.pick(none, h, h)
}

func (c chance) set(last int) []api.Given {
	var l []api.Given
	for range c.Intn(3) {
		field := []string{"x", "l", "r", "b", "t", "s", "q"}[min(c.Intn(7), c.Intn(7))]
		l = append(l, given(field, c.value(field, last)))
	}
	return l
}

// answer is what an operation tells.
type answer struct {
	n   uint64
	err api.Errno
}

// step does one operation in both, and tells both answers.
func (c chance) step(s *store.Store, m *model) (got, want answer) {
	h := c.Intn(m.last + 2)
	if len(m.facts) > 0 && c.Intn(3) > 0 {
		h = m.facts[c.Intn(len(m.facts))].Handle
	}
	l := c.set(m.last)
	switch c.Intn(7) {
	case 0, 1, 2, 3:
		name := []string{"A", "B", "C", "D", "E", "F", "G"}[c.Intn(7)]
		stated := c.Intn(2) == 0
		n, err := s.Insert(name, l, stated)
		k, bad := m.insert(name, l, stated)
		return answer{uint64(n), err}, answer{uint64(k), bad}
	case 4, 5:
		n, err := s.Update(h, l)
		k, bad := m.update(h, l)
		return answer{n, err}, answer{k, bad}
	}
	return answer{0, s.Delete(h)}, answer{0, m.remove(h)}
}

// P3.1 to P3.5: whatever is done, in whichever order, a store tells what its meaning tells, errors among it.
func TestModel(t *testing.T) {
	count := map[api.Errno]int{}
	for seed := range int64(40) {
		c := chance{rand.New(rand.NewSource(seed))}
		most := 1 + c.Intn(12)
		s, m := made(t, most), &model{table: table(t, family()), most: most}
		for range 250 {
			clock := s.Clock()
			got, want := c.step(s, m)
			count[got.err]++
			if got != want || got.err != api.OK && s.Clock() != clock || told(s) != m.told() {
				t.Fatalf("seed %d: %v; not %v\n%s\n%s", seed, got, want, told(s), m.told())
			}
			follows(t, s, m.table)
		}
	}
	for _, err := range []api.Errno{api.OK, api.ErrClass, api.ErrField, api.ErrFull, api.ErrGone} {
		if count[err] < 100 {
			t.Errorf("error %d came %d times: the operations are too tame", err, count[err])
		}
	}
}
