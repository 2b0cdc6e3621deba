package pin_test

import (
	"math"
	"slices"
	"testing"

	"footlocker/api"
	"footlocker/layout"
	"footlocker/mem"
	"footlocker/pin"
)

const all = ^uint64(0)

// arena is an arena of so many threads.
func arena(threads int) api.Config {
	return api.Config{Threads: threads, Slots: 5, Chunks: 2, Words: 20, Gens: 9, Sparse: 600, Tries: 3}
}

// entered is a thread in a fresh arena.
func entered(t *testing.T, threads, who int) layout.Env {
	t.Helper()
	c := arena(threads)
	m, e := layout.Fresh(c)
	if e != api.OK {
		t.Fatal(e)
	}
	return layout.Env{C: c, M: m, Who: who}
}

// filled is a thread in an arena of which no two words are the same, but for the epoch: a word that is changed by mistake is seen.
func filled(t *testing.T, threads, who int, epoch uint64) layout.Env {
	t.Helper()
	e := entered(t, threads, who)
	for a := range e.M.Len() {
		e.M.Store(a, 1<<50+uint64(a))
	}
	e.M.Store(layout.Epoch(), epoch)
	return e
}

// words is a memory's words, without a step.
func words(m *mem.Mem) []uint64 {
	l := make([]uint64, m.Len())
	for a := range l {
		l[a] = m.Peek(a)
	}
	return l
}

// epochs is epochs of all kinds; behind the last one the pin wraps round.
func epochs() []uint64 {
	return []uint64{0, 1, 2, 3, 1000, 1<<16 - 1, 1 << 31, 1<<32 - 1, 1 << 36, 1<<40 + 7, 1<<63 - 1, 1 << 63, all - 1, all}
}

// touch is what one step must do: to which word it is done, and what that word is behind it.
type touch struct {
	addr int
	w    uint64
}

// wantStep does one step and asks that it touches that word alone, by Who, changes no other, and tells whether it is done.
func wantStep(t *testing.T, e layout.Env, step func(layout.Env) bool, want touch, done bool) {
	t.Helper()
	now := e.Now()
	l := words(e.M)
	changed := l[want.addr] != want.w
	l[want.addr] = want.w
	// Somebody else did what was done ahead of it.
	e.M.By(e.Who + 1)
	if got := step(e); got != done {
		t.Fatalf("by %d at word %d: done is %v, not %v", e.Who, want.addr, got, done)
	}
	if e.Now() != now+1 {
		t.Fatalf("by %d at word %d: %d steps, not one", e.Who, want.addr, e.Now()-now)
	}
	if last := (api.Touch{Addr: want.addr, Who: e.Who, Changed: changed}); e.M.Last() != last {
		t.Fatalf("noted is %v, not %v", e.M.Last(), last)
	}
	if !slices.Equal(words(e.M), l) {
		t.Fatalf("by %d at word %d: the words are %v, not %v", e.Who, want.addr, words(e.M), l)
	}
}

// wantPinned asks that a thread that begins now, and whom nobody disturbs, pins that epoch in three steps.
func wantPinned(t *testing.T, e layout.Env, epoch uint64) {
	t.Helper()
	p := &pin.In{}
	wantStep(t, e, p.Step, touch{layout.Epoch(), epoch}, false)
	wantStep(t, e, p.Step, touch{layout.Pin(e.Who), epoch + 1}, false)
	wantStep(t, e, p.Step, touch{layout.Epoch(), epoch}, true)
}

func TestExampleOfTheChapter(t *testing.T) {
	e := entered(t, 1, 0)
	now := e.Now()
	p := &pin.In{}
	for i, done := range []bool{false, false, true} {
		if p.Step(e) != done {
			t.Errorf("step %d: done is not %v", i+1, done)
		}
	}
	if e.M.Peek(layout.Pin(0)) != 1 || e.Now() != now+3 {
		t.Error(e.M.Peek(layout.Pin(0)), e.Now()-now)
	}
}

func TestAloneAThreadPinsInThreeSteps(t *testing.T) {
	for threads := 1; threads <= api.MostThreads; threads++ {
		for who := range threads {
			for _, epoch := range epochs() {
				wantPinned(t, filled(t, threads, who, epoch), epoch)
			}
		}
	}
}

func TestAThreadPinsAgain(t *testing.T) {
	// What it had pinned ahead of that, be it the same, changes nothing.
	e := filled(t, 3, 1, 0)
	for _, own := range []uint64{0, 1, 5, 6, 7, all} {
		for _, epoch := range []uint64{0, 4, 5, 6} {
			e.M.Store(layout.Pin(1), own)
			e.M.Store(layout.Epoch(), epoch)
			wantPinned(t, e, epoch)
			wantPinned(t, e, epoch)
		}
	}
}

func TestOutLaysTheOwnPinInOneStep(t *testing.T) {
	for threads := 1; threads <= api.MostThreads; threads++ {
		for who := range threads {
			for _, own := range epochs() {
				e := filled(t, threads, who, 3)
				e.M.Store(layout.Pin(who), own)
				wantStep(t, e, pin.Out{}.Step, touch{layout.Pin(who), 0}, true)
				// A pin that is 0 already is laid, too.
				wantStep(t, e, pin.Out{}.Step, touch{layout.Pin(who), 0}, true)
			}
		}
	}
}

func TestInAndOutInTurn(t *testing.T) {
	e := filled(t, 4, 2, 0)
	for epoch := range uint64(50) {
		e.M.Store(layout.Epoch(), epoch)
		wantPinned(t, e, epoch)
		wantStep(t, e, pin.Out{}.Step, touch{layout.Pin(2), 0}, true)
	}
}

func TestWhatIsDoneStaysDone(t *testing.T) {
	e := filled(t, 2, 0, 8)
	p := &pin.In{}
	for !p.Step(e) {
	}
	for range 5 {
		e.M.Add(layout.Epoch(), 1)
		now, last, l := e.Now(), e.M.Last(), words(e.M)
		if !p.Step(e) {
			t.Error("it was done")
		}
		if e.Now() != now || e.M.Last() != last || !slices.Equal(words(e.M), l) {
			t.Error("who is done does nothing any more", e.M.Last())
		}
	}
	if w := e.M.Peek(layout.Pin(0)); w != 9 {
		t.Error("the pin is", w)
	}
}

func TestTwoInsShareNothing(t *testing.T) {
	e := filled(t, 2, 0, 8)
	one := &pin.In{}
	for !one.Step(e) {
	}
	e.Who = 1
	wantPinned(t, e, 8)
	// A copy goes its own way.
	half := pin.In{}
	half.Step(e)
	other := half
	for !half.Step(e) {
	}
	wantStep(t, e, other.Step, touch{layout.Pin(1), 9}, false)
}

func TestThreadsThatTheArenaHasNot(t *testing.T) {
	for threads := 1; threads <= api.MostThreads; threads++ {
		for _, who := range []int{math.MinInt, math.MinInt + 1, -1 << 32, -64, -7, -6, -5, -2, api.Compactor, threads, threads + 1, 8, 9, 60, 1 << 20, 1 << 32, math.MaxInt - 6, math.MaxInt - 5, math.MaxInt} {
			wantUntouched(t, filled(t, threads, who, 5))
		}
	}
}

// wantUntouched asks that who has no pin is done, and touches nothing.
func wantUntouched(t *testing.T, e layout.Env) {
	t.Helper()
	now, last, l := e.Now(), e.M.Last(), words(e.M)
	p := &pin.In{}
	for range 5 {
		if !p.Step(e) || !(pin.Out{}).Step(e) {
			t.Fatalf("by %d: there is nothing to do", e.Who)
		}
	}
	if e.Now() != now || e.M.Last() != last || !slices.Equal(words(e.M), l) {
		t.Fatalf("by %d of %d threads: touched was %v", e.Who, e.C.Threads, e.M.Last())
	}
}

func TestNobodyPins(t *testing.T) {
	e := filled(t, 2, 1, 5)
	now, l := e.Now(), words(e.M)
	var p *pin.In
	for range 5 {
		if !p.Step(e) || !p.Step(layout.Env{}) {
			t.Error("a nil one has nothing to do")
		}
	}
	if e.Now() != now || !slices.Equal(words(e.M), l) {
		t.Error("a nil one touched", e.M.Last())
	}
}
