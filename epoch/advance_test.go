package epoch_test

import (
	"testing"

	"footlocker/api"
	"footlocker/epoch"
	"footlocker/layout"
)

// goesOn is whether a pin lets that epoch go on.
func goesOn(now, pin uint64) bool {
	return pin == 0 || pin == now+1
}

// wantGone asks that one who begins now, and whom nobody disturbs, lets the epoch go on just if each pin is 0, or the epoch and 1, step by step.
func wantGone(t *testing.T, e layout.Env, now uint64, pins []uint64) {
	t.Helper()
	e.M.Store(epochAt, now)
	for i, p := range pins {
		e.M.Store(pinAt(i), p)
	}
	g := newGoer()
	wantLook(t, e, g, epochAt)
	for i, p := range pins {
		if !goesOn(now, p) {
			wantVain(t, e, g, pinAt(i))
			if e.M.Peek(epochAt) != now {
				t.Fatalf("epoch %d, pins %v: the epoch is %d", now, pins, e.M.Peek(epochAt))
			}
			wantOver(t, e, g)
			return
		}
		wantLook(t, e, g, pinAt(i))
	}
	wantStep(t, e, g, touch{epochAt, now + 1}, true, true)
	wantOver(t, e, g)
}

// none is so many pins of which none is laid.
func none(threads int) []uint64 {
	return make([]uint64, threads)
}

func TestExampleOfTheChapter(t *testing.T) {
	// Nobody is pinned: the epoch goes on.
	e := entered(t, arena(2, 4, 20), 0)
	now := e.Now()
	a := &epoch.Advance{}
	for i, done := range []bool{false, false, false, true} {
		if a.Went() || a.Step(e) != done {
			t.Errorf("step %d: done is not %v", i+1, done)
		}
	}
	if !a.Went() || e.M.Peek(layout.Epoch()) != 1 || e.Now() != now+4 {
		t.Error(a.Went(), e.M.Peek(layout.Epoch()), e.Now()-now)
	}
}

func TestNobodyIsPinned(t *testing.T) {
	for threads := 1; threads <= api.MostThreads; threads++ {
		for _, now := range epochs() {
			wantGone(t, filled(t, arena(threads, 2, 20), now), now, none(threads))
		}
	}
}

func TestOneThreadIsPinned(t *testing.T) {
	for threads := 1; threads <= api.MostThreads; threads++ {
		e := filled(t, arena(threads, 1, 17), 0)
		for who := range threads {
			for _, now := range epochs() {
				for _, p := range append(epochs(), now-2, now-1, now, now+1, now+2, now+3, now|1<<63, now+1<<32, now+1+1<<32, now+1+1<<63) {
					pins := none(threads)
					pins[who] = p
					wantGone(t, e, now, pins)
				}
			}
		}
	}
}

func TestAllAreOfAnyPins(t *testing.T) {
	for _, now := range []uint64{0, 1, 7, all - 1, all} {
		kinds := []uint64{0, now + 1, now, now + 2, now - 1, 5, all}
		for threads := 1; threads <= 3; threads++ {
			e := filled(t, arena(threads, 1, 17), 0)
			many := 1
			for range threads {
				many *= len(kinds)
			}
			for k := range many {
				pins := none(threads)
				for i := range pins {
					pins[i] = kinds[k%len(kinds)]
					k /= len(kinds)
				}
				wantGone(t, e, now, pins)
			}
		}
	}
}

func TestManyAreOfAnyPins(t *testing.T) {
	x := uint64(3)
	var k int
	for threads := 4; threads <= api.MostThreads; threads++ {
		e := filled(t, arena(threads, 1, 17), 0)
		for range 400 {
			k, x = mixed(x, len(epochs()))
			now := epochs()[k]
			pins := none(threads)
			for i := range pins {
				k, x = mixed(x, 12)
				// Most let it go on, so that the last ones are asked, too.
				pins[i] = []uint64{0, now + 1, 0, now + 1, 0, now + 1, 0, now + 1, 0, now + 1, now, x}[k]
			}
			wantGone(t, e, now, pins)
		}
	}
}

func TestWhatIsNoPinDoesNotCount(t *testing.T) {
	// What stands ahead of the pins, and behind them, stops nobody, whatever it is.
	for threads := 1; threads <= api.MostThreads; threads++ {
		for _, w := range []uint64{0, 1, 4, 5, 6, all} {
			e := filled(t, arena(threads, 2, 20), 4)
			for a := 1; a < pinAt(0); a++ {
				e.M.Store(a, w)
			}
			for a := pinAt(threads); a < e.M.Len(); a++ {
				e.M.Store(a, w)
			}
			wantGone(t, e, 4, none(threads))
		}
	}
}

func TestItGoesOnAsOftenAsItIsTried(t *testing.T) {
	for _, threads := range []int{1, 3, api.MostThreads} {
		e := filled(t, arena(threads, 1, 17), 0)
		for now := range uint64(40) {
			wantGone(t, e, now, none(threads))
		}
	}
}

func TestItWrapsRound(t *testing.T) {
	e := filled(t, arena(2, 1, 17), all)
	wantGone(t, e, all, none(2))
	if e.M.Peek(epochAt) != 0 {
		t.Error(e.M.Peek(epochAt))
	}
}

func TestTheEpochIsAnotherOneMeanwhile(t *testing.T) {
	const threads, was = 3, 6
	for ahead := range threads + 2 {
		for _, is := range []uint64{0, was - 1, was, was + 1, was + 2, all} {
			e := filled(t, arena(threads, 1, 17), was)
			// Pinned is the one that was: by the pins it may go on.
			e.M.Store(pinAt(1), was+1)
			g := newGoer()
			for k := range threads + 1 {
				if k == ahead {
					e.M.Store(epochAt, is)
				}
				if ahead == 0 && k == 2 && is != was {
					// It is another one from the beginning on, which the pin is not.
					wantVain(t, e, g, pinAt(1))
					wantOver(t, e, g)
					break
				}
				wantLook(t, e, g, []int{epochAt, pinAt(0), pinAt(1), pinAt(2)}[k])
			}
			if ahead == 0 && is != was {
				continue
			}
			if ahead == threads+1 {
				e.M.Store(epochAt, is)
			}
			if is != was {
				wantVain(t, e, g, epochAt)
			} else {
				wantStep(t, e, g, touch{epochAt, was + 1}, true, true)
			}
			wantOver(t, e, g)
		}
	}
}

func TestTheEpochThatWasAndIsAgain(t *testing.T) {
	// What it was in between is not seen.
	e := filled(t, arena(2, 1, 17), 6)
	g := newGoer()
	wantLook(t, e, g, epochAt)
	e.M.Store(epochAt, 9)
	wantLook(t, e, g, pinAt(0))
	e.M.Store(epochAt, 6)
	wantLook(t, e, g, pinAt(1))
	wantStep(t, e, g, touch{epochAt, 7}, true, true)
}

func TestAPinIsAnotherOneMeanwhile(t *testing.T) {
	// Ahead of each step, a pin of each thread: what is loaded counts.
	const now = 6
	pins := []uint64{0, now - 1, now, now + 1, now + 2}
	for threads := 1; threads <= 4; threads++ {
		for who := range threads {
			for ahead := range threads + 2 {
				for _, was := range pins {
					for _, is := range pins {
						e := filled(t, arena(threads, 1, 17), now)
						e.M.Store(pinAt(who), was)
						g, x := newGoer(), newPlainGoer()
						for k := 0; !x.done; k++ {
							if k == ahead {
								e.M.Store(pinAt(who), is)
							}
							x.follow(t, e, g)
						}
						seen := was
						// Its pin is loaded at the step behind the epoch, and those of the threads ahead of it.
						if ahead <= who+1 {
							seen = is
						}
						if g.Went() != goesOn(now, seen) {
							t.Fatalf("of %d threads the pin of %d was %d, and %d ahead of step %d: it went on is %v", threads, who, was, is, ahead, g.Went())
						}
					}
				}
			}
		}
	}
}

func TestTwoThatLetItGoOn(t *testing.T) {
	// In each order of their steps; of those who loaded the same epoch one lets it go on.
	const length = 12
	for order := range 1 << length {
		e := filled(t, arena(2, 1, 17), 3)
		l := []goer{newGoer(), newGoer()}
		x := []*plainGoer{newPlainGoer(), newPlainGoer()}
		went := uint64(0)
		for i := range length {
			k := order >> i & 1
			e.Who = k
			x[k].follow(t, e, l[k])
			if x[k].done {
				if l[k].Went() {
					went++
				}
				l[k], x[k] = newGoer(), newPlainGoer()
			}
		}
		if e.M.Peek(epochAt) != 3+went {
			t.Fatalf("it went on %d times, and is %d", went, e.M.Peek(epochAt))
		}
	}
}

func TestTwoAdvancesShareNothing(t *testing.T) {
	e := filled(t, arena(2, 1, 17), 3)
	wantGone(t, e, 3, none(2))
	wantGone(t, e, 4, none(2))
	// A copy goes its own way.
	half := epoch.Advance{}
	half.Step(e)
	half.Step(e)
	other := half
	if !wantEnd(t, e, goer{&half}) {
		t.Fatal("nobody is pinned")
	}
	wantLook(t, e, goer{&other}, pinAt(1))
	wantVain(t, e, goer{&other}, epochAt)
}

// plainGoer is one that lets the epoch go on, as the chapter's words tell it: what it does next, and the epoch that it loaded.
type plainGoer struct {
	at   func(e layout.Env) touch
	now  uint64
	who  int
	done bool
	went bool
}

func newPlainGoer() *plainGoer {
	x := &plainGoer{}
	x.at = x.load
	return x
}

// load: the epoch is loaded.
func (x *plainGoer) load(e layout.Env) touch {
	x.now = e.M.Peek(epochAt)
	x.at = x.ask
	return look(e, epochAt)
}

// ask: each thread's pin, in turn: one that is not 0, and not the epoch and 1, ends it.
func (x *plainGoer) ask(e layout.Env) touch {
	at := look(e, pinAt(x.who))
	x.done = !goesOn(x.now, at.w)
	x.who++
	if x.who == e.C.Threads {
		x.at = x.swap
	}
	return at
}

// swap: by Cas the epoch is one more.
func (x *plainGoer) swap(e layout.Env) touch {
	x.done = true
	x.went = e.M.Peek(epochAt) == x.now
	if !x.went {
		return look(e, epochAt)
	}
	return touch{epochAt, x.now + 1}
}

// follow does a step of one that lets the epoch go on, and asks that it is the one that the chapter tells.
func (x *plainGoer) follow(t *testing.T, e layout.Env, g goer) {
	t.Helper()
	want := x.at(e)
	wantStep(t, e, g, want, x.done, x.went)
}
