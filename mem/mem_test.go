package mem_test

import (
	"math"
	"testing"

	"footlocker/api"
	"footlocker/mem"
)

const all = ^uint64(0)

// made is a memory of so many words.
func made(t *testing.T, n int) *mem.Mem {
	t.Helper()
	m, e := mem.New(n)
	if e != api.OK || m == nil {
		t.Fatalf("New(%d): %v, error %d", n, m, e)
	}
	return m
}

// wantStep asks how many steps were done, and what is noted of the last one.
func wantStep(t *testing.T, m *mem.Mem, steps int, last api.Touch) {
	t.Helper()
	if m.Steps() != steps {
		t.Errorf("%d steps, not %d", m.Steps(), steps)
	}
	if m.Last() != last {
		t.Errorf("noted is %v, not %v", m.Last(), last)
	}
}

// wantWord asks what a word is and when it was changed last, and that neither question is a step.
func wantWord(t *testing.T, m *mem.Mem, a int, w uint64, when int) {
	t.Helper()
	steps, last := m.Steps(), m.Last()
	if m.Peek(a) != w {
		t.Errorf("word %d is %#x, not %#x", a, m.Peek(a), w)
	}
	if m.When(a) != when {
		t.Errorf("word %d was changed at %d, not %d", a, m.When(a), when)
	}
	wantStep(t, m, steps, last)
}

func TestNewThatMayBe(t *testing.T) {
	for _, n := range []int{1, 2, 3, 4, 1000, api.MostAddress - 1, api.MostAddress, api.MostAddress + 1} {
		m := made(t, n)
		if m.Len() != n {
			t.Errorf("New(%d) has %d words", n, m.Len())
		}
		wantStep(t, m, 0, api.Touch{})
		for a := range n {
			if m.Peek(a) != 0 || m.When(a) != 0 {
				t.Fatalf("New(%d): word %d is %d, changed at %d", n, a, m.Peek(a), m.When(a))
			}
		}
		if e := m.Store(n-1, 5); e != api.OK || m.Peek(n-1) != 5 {
			t.Errorf("New(%d): the last word, error %d", n, e)
		}
		if e := m.Store(n, 5); e != api.ErrAddress {
			t.Errorf("New(%d): the word behind the last, error %d", n, e)
		}
	}
}

func TestNewThatMayNotBe(t *testing.T) {
	for _, n := range []int{math.MinInt, -api.MostAddress, -2, -1, 0, api.MostAddress + 2, api.MostAddress + 3, 1 << 21, 1 << 40, math.MaxInt} {
		if m, e := mem.New(n); m != nil || e != api.ErrInput {
			t.Errorf("New(%d): %v, error %d", n, m, e)
		}
	}
}

func TestLoad(t *testing.T) {
	m := made(t, 3)
	m.By(4)
	if w, e := m.Load(0); w != 0 || e != api.OK {
		t.Error(w, e)
	}
	wantStep(t, m, 1, api.Touch{Addr: 0, Who: 4})
	m.Store(2, all)
	if w, e := m.Load(2); w != all || e != api.OK {
		t.Error(w, e)
	}
	wantStep(t, m, 3, api.Touch{Addr: 2, Who: 4})
	wantWord(t, m, 2, all, 2)
	wantWord(t, m, 0, 0, 0)
}

func TestStore(t *testing.T) {
	m := made(t, 3)
	m.By(-1)
	if e := m.Store(1, all); e != api.OK {
		t.Error(e)
	}
	wantStep(t, m, 1, api.Touch{Addr: 1, Who: -1, Changed: true})
	wantWord(t, m, 1, all, 1)
	if e := m.Store(1, 0); e != api.OK {
		t.Error(e)
	}
	wantStep(t, m, 2, api.Touch{Addr: 1, Who: -1, Changed: true})
	wantWord(t, m, 1, 0, 2)
	wantWord(t, m, 0, 0, 0)
	wantWord(t, m, 2, 0, 0)
}

func TestStoreOfWhatIsThere(t *testing.T) {
	m := made(t, 3)
	if e := m.Store(1, 0); e != api.OK {
		t.Error(e)
	}
	wantStep(t, m, 1, api.Touch{Addr: 1})
	wantWord(t, m, 1, 0, 0)
	m.Store(1, 6)
	m.Store(1, 6)
	wantStep(t, m, 3, api.Touch{Addr: 1})
	wantWord(t, m, 1, 6, 2)
}

func TestCasOfWhatIsThere(t *testing.T) {
	m := made(t, 3)
	if is, e := m.Cas(2, 0, 7); !is || e != api.OK {
		t.Error(is, e)
	}
	wantStep(t, m, 1, api.Touch{Addr: 2, Changed: true})
	wantWord(t, m, 2, 7, 1)
	if is, e := m.Cas(2, 7, all); !is || e != api.OK {
		t.Error(is, e)
	}
	wantStep(t, m, 2, api.Touch{Addr: 2, Changed: true})
	wantWord(t, m, 2, all, 2)
	wantWord(t, m, 0, 0, 0)
	wantWord(t, m, 1, 0, 0)
}

func TestCasByTheSameWord(t *testing.T) {
	m := made(t, 1)
	m.Store(0, 7)
	if is, e := m.Cas(0, 7, 7); !is || e != api.OK {
		t.Error(is, e)
	}
	wantStep(t, m, 2, api.Touch{})
	wantWord(t, m, 0, 7, 1)
}

func TestCasOfWhatIsNotThere(t *testing.T) {
	m := made(t, 3)
	m.Store(1, 1)
	// The chapter's example is the first; a word that differs by one bit, at either end, is another one.
	for i, old := range []uint64{0, 2, 1<<63 | 1, all, 9} {
		m.By(i)
		if is, e := m.Cas(1, old, 9); is || e != api.OK {
			t.Error(old, is, e)
		}
		wantStep(t, m, 2+i, api.Touch{Addr: 1, Who: i})
		wantWord(t, m, 1, 1, 1)
	}
	if is, e := m.Cas(1, 0, 1); is || e != api.OK {
		t.Error("what would be laid is there already", is, e)
	}
	wantWord(t, m, 1, 1, 1)
}

func TestAdd(t *testing.T) {
	m := made(t, 3)
	m.By(3)
	was := uint64(0)
	// One beyond all bits is 0 again; to add all bits is to take 1 away.
	for i, d := range []uint64{5, 1<<63 - 5, 1 << 62, 1 << 63, all, all - 1, 1 << 63} {
		got, e := m.Add(2, d)
		if got != was || e != api.OK {
			t.Errorf("add %#x: it was %#x, not %#x, error %d", d, got, was, e)
		}
		was += d
		wantStep(t, m, i+1, api.Touch{Addr: 2, Who: 3, Changed: true})
		wantWord(t, m, 2, was, i+1)
	}
	wantWord(t, m, 0, 0, 0)
	wantWord(t, m, 1, 0, 0)
}

func TestAddWrapsRound(t *testing.T) {
	m := made(t, 1)
	if was, e := m.Add(0, all); was != 0 || e != api.OK {
		t.Error(was, e)
	}
	wantWord(t, m, 0, all, 1)
	if was, e := m.Add(0, 1); was != all || e != api.OK {
		t.Error(was, e)
	}
	wantWord(t, m, 0, 0, 2)
}

func TestAddOfNought(t *testing.T) {
	m := made(t, 2)
	m.Store(1, 8)
	if was, e := m.Add(1, 0); was != 8 || e != api.OK {
		t.Error(was, e)
	}
	wantStep(t, m, 2, api.Touch{Addr: 1})
	wantWord(t, m, 1, 8, 1)
}

// missing is addresses of no word of a memory that has n.
func missing(n int) []int {
	return []int{math.MinInt, -n - 1, -n, -2, -1, n, n + 1, 2 * n, api.MostAddress + 1, 1 << 32, 1<<32 + 1, math.MaxInt}
}

// wantNoAddress asks each call that does a step for the error, with zero values beside it.
func wantNoAddress(t *testing.T, m *mem.Mem, a int) {
	t.Helper()
	if w, e := m.Load(a); w != 0 || e != api.ErrAddress {
		t.Errorf("Load(%d): %d, error %d", a, w, e)
	}
	if e := m.Store(a, 1); e != api.ErrAddress {
		t.Errorf("Store(%d): error %d", a, e)
	}
	// 0 is what Peek tells of such a word, yet it is not there to be exchanged.
	for _, old := range []uint64{0, 1, 5} {
		if is, e := m.Cas(a, old, 1); is || e != api.ErrAddress {
			t.Errorf("Cas(%d): %v, error %d", a, is, e)
		}
	}
	if w, e := m.Add(a, 1); w != 0 || e != api.ErrAddress {
		t.Errorf("Add(%d): %d, error %d", a, w, e)
	}
}

func TestNoSuchWord(t *testing.T) {
	for _, n := range []int{1, 4, 1000} {
		m := made(t, n)
		m.By(6)
		for a := range n {
			m.Store(a, 5)
		}
		m.By(7)
		for _, a := range missing(n) {
			wantNoAddress(t, m, a)
			wantWord(t, m, a, 0, 0)
			wantStep(t, m, n, api.Touch{Addr: n - 1, Who: 6, Changed: true})
		}
		for a := range n {
			wantWord(t, m, a, 5, a+1)
		}
	}
}

func TestNoSuchWordAheadOfAllSteps(t *testing.T) {
	m := made(t, 2)
	m.By(6)
	for _, a := range missing(2) {
		wantNoAddress(t, m, a)
		wantStep(t, m, 0, api.Touch{})
	}
}

func TestByIsOfWhatFollows(t *testing.T) {
	m := made(t, 2)
	m.Store(0, 1)
	wantStep(t, m, 1, api.Touch{Addr: 0, Changed: true})
	for i, who := range []int{1, -1, math.MinInt, math.MaxInt, api.Compactor, 7, 0} {
		before := m.Last()
		m.By(who - 1)
		m.By(who)
		wantStep(t, m, 1+2*i, before)
		m.Load(1)
		wantStep(t, m, 2+2*i, api.Touch{Addr: 1, Who: who})
		m.Load(0)
		wantStep(t, m, 3+2*i, api.Touch{Addr: 0, Who: who})
	}
}

func TestNil(t *testing.T) {
	var m *mem.Mem
	for _, a := range append(missing(1), 0) {
		m.By(a)
		wantNoAddress(t, m, a)
		wantWord(t, m, a, 0, 0)
		wantStep(t, m, 0, api.Touch{})
		if m.Len() != 0 {
			t.Error(m.Len())
		}
	}
}

func TestTwoShareNothing(t *testing.T) {
	one, other := made(t, 2), made(t, 2)
	one.By(5)
	one.Store(0, 9)
	wantStep(t, other, 0, api.Touch{})
	wantWord(t, other, 0, 0, 0)
	other.Store(1, 3)
	wantStep(t, other, 1, api.Touch{Addr: 1, Changed: true})
	wantStep(t, one, 1, api.Touch{Addr: 0, Who: 5, Changed: true})
	wantWord(t, one, 1, 0, 0)
}

func TestWhatWasToldStays(t *testing.T) {
	m := made(t, 2)
	m.By(5)
	m.Store(1, 9)
	last := m.Last()
	m.By(6)
	m.Load(0)
	if last != (api.Touch{Addr: 1, Who: 5, Changed: true}) {
		t.Error(last)
	}
	last.Addr, last.Who, last.Changed = 8, 8, true
	wantStep(t, m, 2, api.Touch{Addr: 0, Who: 6})
}
