package pin_test

import (
	"testing"

	"footlocker/layout"
	"footlocker/pin"
)

// seat is a thread of several: who pins, what the chapter tells of it, and the pin that it was left with.
type seat struct {
	in   *pin.In
	told *thread
	pin  uint64
}

// crowd is several threads that work in one memory.
type crowd struct {
	t     *testing.T
	e     layout.Env
	seats []seat
}

func newCrowd(t *testing.T, threads int) *crowd {
	t.Helper()
	c := &crowd{t: t, e: filled(t, threads, 0, 3)}
	for range threads {
		c.seats = append(c.seats, seat{in: &pin.In{}, told: newThread()})
	}
	return c
}

// pick lets the thread that is picked do a step; who is done lets its pin go, and then begins anew.
func (c *crowd) pick(who int) {
	c.t.Helper()
	s := &c.seats[who]
	c.e.Who = who
	if s.told.done {
		if w := c.e.M.Peek(layout.Pin(who)); w != s.pin {
			c.t.Fatalf("thread %d had pinned %d, and its pin is %d", who, s.pin, w)
		}
		wantStep(c.t, c.e, pin.Out{}.Step, touch{layout.Pin(who), 0}, true)
		*s = seat{in: &pin.In{}, told: newThread()}
		return
	}
	follow(c.t, c.e, s.in, s.told)
	s.pin = c.e.M.Peek(layout.Pin(who))
}

// goOn lets the epoch go on.
func (c *crowd) goOn() {
	c.e.M.Add(layout.Epoch(), 1)
}

func TestTwoThreadsAndTheEpochInEachOrder(t *testing.T) {
	const length = 8
	orders := 1
	for range length {
		orders *= 3
	}
	for order := range orders {
		c := newCrowd(t, 2)
		for rest, i := order, 0; i < length; i++ {
			if rest%3 == 2 {
				c.goOn()
			} else {
				c.pick(rest % 3)
			}
			rest /= 3
		}
	}
}

func TestAllThreadsWhoeverIsPicked(t *testing.T) {
	for seed := range uint64(40) {
		threads := 1 + int(seed%8)
		c := newCrowd(t, threads)
		x := seed
		for range 1500 {
			x = x*6364136223846793005 + 1442695040888963407
			// The epoch is picked like one more thread.
			who := int(x >> 33 % uint64(threads+1))
			if who < threads {
				c.pick(who)
			} else {
				c.goOn()
			}
		}
	}
}

func TestOneThatIsNeverPickedAgainStopsNobody(t *testing.T) {
	for half := range 4 {
		c := newCrowd(t, 3)
		for range half {
			c.pick(1)
		}
		stays := c.e.M.Peek(layout.Pin(1))
		for range 10 {
			c.goOn()
			for _, who := range []int{0, 2, 2, 0, 0, 2} {
				c.pick(who)
			}
			if !c.seats[0].told.done || !c.seats[2].told.done {
				t.Fatal("alone with one that stands still both are done in three steps each")
			}
			c.pick(0)
			c.pick(2)
		}
		if w := c.e.M.Peek(layout.Pin(1)); w != stays {
			t.Errorf("behind %d steps its pin was %d, and is %d", half, stays, w)
		}
	}
}
