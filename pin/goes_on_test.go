package pin_test

import (
	"testing"

	"footlocker/layout"
	"footlocker/pin"
)

// thread is a thread that pins, as the chapter's words tell it: what it does next, and the epoch that it loaded last.
type thread struct {
	at     func(e layout.Env) (touch, bool)
	loaded uint64
	done   bool
}

func newThread() *thread {
	x := &thread{}
	x.at = x.first
	return x
}

// first: the epoch is loaded.
func (x *thread) first(e layout.Env) (touch, bool) {
	x.loaded = e.M.Peek(layout.Epoch())
	x.at = x.lay
	return touch{layout.Epoch(), x.loaded}, false
}

// lay: the pin is that and 1.
func (x *thread) lay(e layout.Env) (touch, bool) {
	x.at = x.again
	return touch{layout.Pin(e.Who), x.loaded + 1}, false
}

// again: the epoch is loaded once more: if it is another one, the pin is laid anew by that.
func (x *thread) again(e layout.Env) (touch, bool) {
	was := x.loaded
	x.loaded = e.M.Peek(layout.Epoch())
	x.done = x.loaded == was
	x.at = x.lay
	return touch{layout.Epoch(), x.loaded}, x.done
}

// follow does a step of a thread, and asks that it is the one that the chapter tells.
func follow(t *testing.T, e layout.Env, p *pin.In, x *thread) {
	t.Helper()
	want, done := x.at(e)
	wantStep(t, e, p.Step, want, done)
	if done && e.M.Peek(layout.Pin(e.Who)) != e.M.Peek(layout.Epoch())+1 {
		t.Fatalf("by %d: done, but the pin is %d at epoch %d", e.Who, e.M.Peek(layout.Pin(e.Who)), e.M.Peek(layout.Epoch()))
	}
}

func TestTheEpochGoesOnBetweenAnyTwoSteps(t *testing.T) {
	// Bit i of the pattern: the epoch goes on ahead of step i.
	for pattern := range 1 << 10 {
		e := filled(t, 2, 1, 6)
		p, x := &pin.In{}, newThread()
		for i := 0; !x.done; i++ {
			if pattern>>i&1 == 1 {
				e.M.Add(layout.Epoch(), 1)
			}
			if i > 13 {
				t.Fatalf("pattern %b: not done", pattern)
			}
			follow(t, e, p, x)
		}
	}
}

func TestStepsWhenTheEpochGoesOnOnce(t *testing.T) {
	// By numbers: ahead of which step the epoch goes on, how many steps that takes, and what the pin is.
	for _, x := range []struct {
		ahead, steps int
		pin          uint64
	}{
		{0, 3, 8}, {1, 5, 8}, {2, 5, 8}, {3, 3, 7}, {4, 3, 7},
	} {
		e := filled(t, 3, 2, 6)
		p := &pin.In{}
		steps := 0
		for done := false; !done && steps < 20; steps++ {
			if steps == x.ahead {
				e.M.Add(layout.Epoch(), 1)
			}
			done = p.Step(e)
		}
		if steps != x.steps || e.M.Peek(layout.Pin(2)) != x.pin {
			t.Errorf("ahead of step %d: %d steps, the pin is %d", x.ahead, steps, e.M.Peek(layout.Pin(2)))
		}
	}
}

func TestTheEpochGoesOnAgainAndAgain(t *testing.T) {
	for _, times := range []int{0, 1, 2, 3, 10, 500} {
		e := filled(t, 2, 0, 0)
		p, x := &pin.In{}, newThread()
		follow(t, e, p, x)
		for range times {
			follow(t, e, p, x)
			e.M.Add(layout.Epoch(), 1)
			follow(t, e, p, x)
			if x.done {
				t.Fatal("the epoch went on ahead of that look")
			}
		}
		follow(t, e, p, x)
		follow(t, e, p, x)
		if !x.done || e.M.Peek(layout.Pin(0)) != uint64(times)+1 {
			t.Errorf("%d times: done is %v, the pin is %d", times, x.done, e.M.Peek(layout.Pin(0)))
		}
	}
}

func TestAnotherEpochIsAnyOtherOne(t *testing.T) {
	for _, was := range epochs() {
		for _, is := range epochs() {
			e := filled(t, 2, 1, was)
			p, x := &pin.In{}, newThread()
			follow(t, e, p, x)
			follow(t, e, p, x)
			e.M.Store(layout.Epoch(), is)
			follow(t, e, p, x)
			if x.done != (was == is) {
				t.Fatalf("%d, then %d: done is %v", was, is, x.done)
			}
			for !x.done {
				follow(t, e, p, x)
			}
			if w := e.M.Peek(layout.Pin(1)); w != is+1 {
				t.Errorf("%d, then %d: the pin is %d", was, is, w)
			}
		}
	}
}

func TestWhatTheEpochWasBetweenIsNotSeen(t *testing.T) {
	e := filled(t, 2, 1, 4)
	p, x := &pin.In{}, newThread()
	follow(t, e, p, x)
	e.M.Store(layout.Epoch(), 5)
	follow(t, e, p, x)
	e.M.Store(layout.Epoch(), 4)
	follow(t, e, p, x)
	if !x.done {
		t.Error("the epoch is the same one")
	}
}

func TestThePinIsLaidAnewThoughSomebodyElseLaidIt(t *testing.T) {
	// The pin is laid by what was loaded; what stands there does not count.
	e := filled(t, 2, 0, 4)
	p, x := &pin.In{}, newThread()
	follow(t, e, p, x)
	follow(t, e, p, x)
	e.M.Store(layout.Pin(0), 99)
	e.M.Store(layout.Epoch(), 7)
	follow(t, e, p, x)
	follow(t, e, p, x)
	follow(t, e, p, x)
	if !x.done || e.M.Peek(layout.Pin(0)) != 8 {
		t.Error(x.done, e.M.Peek(layout.Pin(0)))
	}
}
