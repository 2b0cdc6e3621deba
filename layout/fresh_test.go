package layout_test

import (
	"testing"

	"footlocker/api"
	"footlocker/layout"
	"footlocker/mem"
	"footlocker/word"
)

// fresh is the memory of an arena that may be.
func fresh(t *testing.T, c api.Config) *mem.Mem {
	t.Helper()
	m, e := layout.Fresh(c)
	if e != api.OK || m == nil {
		t.Fatalf("Fresh(%v): %v, error %d", c, m, e)
	}
	return m
}

func TestFreshThatMayNotBe(t *testing.T) {
	for _, base := range []api.Config{few(), middle(), many()} {
		for _, f := range fields() {
			for _, n := range beyond(f) {
				c := base
				f.lay(&c, n)
				if m, e := layout.Fresh(c); m != nil || e != api.ErrInput {
					t.Errorf("%s %d: %v, error %d", f.name, n, m, e)
				}
			}
		}
	}
	if m, e := layout.Fresh(api.Config{}); m != nil || e != api.ErrInput {
		t.Errorf("an arena of nothing: %v, error %d", m, e)
	}
}

func TestFreshAtEachLimit(t *testing.T) {
	for _, f := range fields() {
		for _, n := range []int{f.least, f.most} {
			c := middle()
			f.lay(&c, n)
			if m := fresh(t, c); m.Len() != layout.Len(c) {
				t.Errorf("%s %d: %d words, not %d", f.name, n, m.Len(), layout.Len(c))
			}
		}
	}
}

// begin is every word of an arena at the beginning, by numbers: behind the state's 3 bits and the address's 20 a slot's Gen 1 is 2^23; a link is the next slot and 1; all begins at slot 0, which is 1.
func begin(c api.Config) []uint64 {
	l := make([]uint64, 6+c.Threads+2*c.Slots+3*c.Chunks+c.Chunks*c.Words)
	l[1] = 1
	slots := 6 + c.Threads
	for i := range c.Slots {
		l[slots+2*i] = 1 << 23
		l[slots+2*i+1] = uint64(i + 2)
	}
	l[slots+2*c.Slots-1] = 0
	return l
}

func TestEveryWordOfAFreshArena(t *testing.T) {
	for _, c := range arenas() {
		m := fresh(t, c)
		want := begin(c)
		if m.Len() != len(want) {
			t.Fatalf("%v: %d words, not %d", c, m.Len(), len(want))
		}
		for a, w := range want {
			if m.Peek(a) != w {
				t.Fatalf("%v: word %d is %#x, not %#x", c, a, m.Peek(a), w)
			}
		}
	}
}

func TestFreeSlotsAreLinked(t *testing.T) {
	for _, c := range []api.Config{few(), middle(), many()} {
		m := fresh(t, c)
		slot, count := word.Top(m.Peek(layout.Top()))
		if count != 0 {
			t.Errorf("%v: the first free slot was another one %d times", c, count)
		}
		for i := range c.Slots {
			if slot != i {
				t.Fatalf("%v: slot %d is free, not %d", c, slot, i)
			}
			at := layout.Slot(c, slot)
			if s := word.Slot(m.Peek(at)); s != (api.Slot{State: api.StateFree, Gen: 1}) {
				t.Fatalf("%v: slot %d is %v", c, slot, s)
			}
			slot, count = word.Top(m.Peek(at + 1))
			if count != 0 {
				t.Fatalf("%v: the link of slot %d has a count of %d", c, i, count)
			}
		}
		if slot != -1 {
			t.Errorf("%v: slot %d is free behind all of them", c, slot)
		}
	}
}

func TestFreshOnesShareNothing(t *testing.T) {
	c := middle()
	one, other := fresh(t, c), fresh(t, c)
	steps := other.Steps()
	for a := range one.Len() {
		one.Store(a, 77)
	}
	later := fresh(t, c)
	for a, w := range begin(c) {
		if other.Peek(a) != w || later.Peek(a) != w {
			t.Fatal(a, other.Peek(a), later.Peek(a), w)
		}
	}
	if other.Steps() != steps || later.Steps() != steps {
		t.Error(other.Steps(), later.Steps(), steps)
	}
}
