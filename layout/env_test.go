package layout_test

import (
	"math"
	"testing"

	"footlocker/api"
	"footlocker/layout"
	"footlocker/mem"
)

const all = ^uint64(0)

// entered is a fresh arena in which somebody works.
func entered(t *testing.T, who int) layout.Env {
	t.Helper()
	c := middle()
	return layout.Env{C: c, M: fresh(t, c), Who: who}
}

// wantStep asks what is noted of the last step, how many were done, and what the word is behind it.
func wantStep(t *testing.T, e layout.Env, now int, last api.Touch, w uint64) {
	t.Helper()
	if e.Now() != now || e.M.Steps() != now {
		t.Errorf("%d steps (the memory tells %d), not %d", e.Now(), e.M.Steps(), now)
	}
	if e.M.Last() != last {
		t.Errorf("noted is %v, not %v", e.M.Last(), last)
	}
	if e.M.Peek(last.Addr) != w {
		t.Errorf("word %d is %#x, not %#x", last.Addr, e.M.Peek(last.Addr), w)
	}
}

func TestEnvLoads(t *testing.T) {
	e := entered(t, 2)
	now := e.Now()
	for a, w := range begin(e.C) {
		if got := e.Load(a); got != w {
			t.Errorf("word %d is %#x, not %#x", a, got, w)
		}
		now++
		wantStep(t, e, now, api.Touch{Addr: a, Who: 2}, w)
	}
}

func TestEnvStores(t *testing.T) {
	e := entered(t, 1)
	now := e.Now()
	for a := range e.M.Len() {
		e.Store(a, all-uint64(a))
		wantStep(t, e, now+2*a+1, api.Touch{Addr: a, Who: 1, Changed: true}, all-uint64(a))
		if w := e.Load(a); w != all-uint64(a) {
			t.Errorf("word %d is %#x", a, w)
		}
	}
	e.Store(0, all)
	wantStep(t, e, now+2*e.M.Len()+1, api.Touch{Addr: 0, Who: 1}, all)
}

func TestEnvExchanges(t *testing.T) {
	e := entered(t, api.Compactor)
	now := e.Now()
	if !e.Cas(30, 0, 5) {
		t.Error("0 was there")
	}
	wantStep(t, e, now+1, api.Touch{Addr: 30, Who: -1, Changed: true}, 5)
	for i, old := range []uint64{0, 4, 1<<63 | 5, all} {
		if e.Cas(30, old, 6) {
			t.Errorf("%d was not there", old)
		}
		wantStep(t, e, now+2+i, api.Touch{Addr: 30, Who: -1}, 5)
	}
	if !e.Cas(30, 5, all) {
		t.Error("5 was there")
	}
	wantStep(t, e, now+6, api.Touch{Addr: 30, Who: -1, Changed: true}, all)
	if !e.Cas(30, all, all) {
		t.Error("the same word was there")
	}
	wantStep(t, e, now+7, api.Touch{Addr: 30, Who: -1}, all)
}

func TestEnvAdds(t *testing.T) {
	e := entered(t, 4)
	now := e.Now()
	// What lives in a chunk grows and falls; below 0 it wraps round.
	for i, x := range []struct {
		d    int
		want uint64
	}{
		{17, 17}, {-9, 8}, {-8, 0}, {-1, all}, {1, 0}, {math.MaxInt, 1<<63 - 1}, {1, 1 << 63}, {math.MinInt, 0}, {math.MinInt, 1 << 63}, {-1, 1<<63 - 1},
	} {
		e.Add(20, x.d)
		wantStep(t, e, now+1+i, api.Touch{Addr: 20, Who: 4, Changed: true}, x.want)
	}
	e.Add(20, 0)
	wantStep(t, e, now+11, api.Touch{Addr: 20, Who: 4}, 1<<63-1)
}

func TestEachStepIsByWho(t *testing.T) {
	e := entered(t, 0)
	other := layout.Env{C: e.C, M: e.M}
	for i, who := range []int{3, -1, 0, math.MinInt, math.MaxInt, 7} {
		other.Who = who
		for kind := range 4 {
			// Somebody else did what was done ahead of it.
			e.M.By(who + 1)
			e.M.Load(0)
			switch kind {
			case 0:
				other.Load(40)
			case 1:
				other.Store(40, uint64(i+1)*10)
			case 2:
				other.Cas(40, uint64(i+1)*10, 1)
			case 3:
				other.Add(40, i+1)
			}
			if want := (api.Touch{Addr: 40, Who: who, Changed: kind != 0}); e.M.Last() != want {
				t.Errorf("kind %d by %d: noted is %v", kind, who, e.M.Last())
			}
		}
	}
}

func TestTwoWorkInOneMemory(t *testing.T) {
	one := entered(t, 0)
	two := layout.Env{C: one.C, M: one.M, Who: 1}
	now := one.Now()
	one.Store(30, 6)
	if w := two.Load(30); w != 6 {
		t.Error(w)
	}
	wantStep(t, two, now+2, api.Touch{Addr: 30, Who: 1}, 6)
	if !two.Cas(30, 6, 7) || one.Cas(30, 6, 8) {
		t.Error("the first one exchanged it")
	}
	wantStep(t, one, now+4, api.Touch{Addr: 30, Who: 0}, 7)
	if one.Now() != two.Now() {
		t.Error(one.Now(), two.Now())
	}
}

// wantNothing asks calls at an address that is not there for nothing: no word, no step.
func wantNothing(t *testing.T, e layout.Env, a int) {
	t.Helper()
	now, last := e.Now(), e.M.Last()
	if w := e.Load(a); w != 0 {
		t.Errorf("word %d, which is not there, is %#x", a, w)
	}
	e.Store(a, 5)
	for _, old := range []uint64{0, 5, all} {
		if e.Cas(a, old, 6) {
			t.Errorf("word %d, which is not there, was exchanged", a)
		}
	}
	e.Add(a, 7)
	e.Add(a, -7)
	if e.Now() != now || e.M.Steps() != now || e.M.Last() != last {
		t.Errorf("word %d, which is not there, was touched: %v", a, e.M.Last())
	}
}

func TestEnvAtAddressesThatAreNotThere(t *testing.T) {
	e := entered(t, 2)
	n := e.M.Len()
	for _, a := range []int{math.MinInt, -n - 1, -n, -2, -1, n, n + 1, 2 * n, 1 << 20, 1 << 32, 1<<32 + 1, math.MaxInt} {
		wantNothing(t, e, a)
	}
	for a, w := range begin(e.C) {
		if e.M.Peek(a) != w {
			t.Errorf("word %d is %#x, not %#x", a, e.M.Peek(a), w)
		}
	}
}

func TestEnvOfAnotherMemory(t *testing.T) {
	m, _ := mem.New(3)
	e := layout.Env{C: middle(), M: m, Who: 5}
	e.Store(2, 9)
	wantStep(t, e, 1, api.Touch{Addr: 2, Who: 5, Changed: true}, 9)
	wantNothing(t, e, 3)
	// The words are those of the memory, whatever the arena is.
	e.C = api.Config{}
	if e.Load(2) != 9 || e.Now() != 2 {
		t.Error(e.M.Peek(2), e.Now())
	}
}

func TestEnvWithoutMemory(t *testing.T) {
	for _, e := range []layout.Env{{}, {C: middle()}, {C: many(), Who: 3}} {
		for _, a := range []int{math.MinInt, -1, 0, 1, 40, math.MaxInt} {
			wantNothing(t, e, a)
		}
		if e.Now() != 0 {
			t.Error(e.Now())
		}
	}
}

func TestNowIsNoStep(t *testing.T) {
	e := entered(t, 6)
	e.Load(3)
	now, last := e.Now(), e.M.Last()
	for range 10 {
		if e.Now() != now || e.M.Last() != last {
			t.Error(e.Now(), e.M.Last())
		}
	}
}
