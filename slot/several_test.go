package slot_test

import (
	"slices"
	"testing"

	"footlocker/layout"
	"footlocker/slot"
)

// doer is somebody who takes, or gives, as the chapter's words tell it: what is done next, and the words that were loaded.
type doer struct {
	at   func(e layout.Env) (touch, bool)
	top  uint64
	link uint64
	slot int // below 0: none
}

func newTaker() *doer {
	d := &doer{slot: -1}
	d.at = d.takeFirst
	return d
}

// takeFirst: the first free slot's word is loaded (none: done).
func (d *doer) takeFirst(e layout.Env) (touch, bool) {
	d.top = e.M.Peek(topAt)
	d.slot = first(d.top)
	d.at = d.takeLink
	return touch{topAt, d.top}, d.slot < 0
}

// takeLink: its link is loaded.
func (d *doer) takeLink(e layout.Env) (touch, bool) {
	d.link = e.M.Peek(linkAt(e.C, d.slot))
	d.at = d.takeSwap
	return touch{linkAt(e.C, d.slot), d.link}, false
}

// takeSwap: by Cas the link's slot is the first one, and the count one more: or all begins anew.
func (d *doer) takeSwap(e layout.Env) (touch, bool) {
	d.at = d.takeFirst
	return d.swap(e, first(d.link))
}

func newGiver(s int) *doer {
	d := &doer{slot: s}
	d.at = d.giveFirst
	return d
}

// giveFirst: the first free slot's word is loaded.
func (d *doer) giveFirst(e layout.Env) (touch, bool) {
	d.top = e.M.Peek(topAt)
	d.at = d.giveLink
	return touch{topAt, d.top}, false
}

// giveLink: the link is laid.
func (d *doer) giveLink(e layout.Env) (touch, bool) {
	d.at = d.giveSwap
	return touch{linkAt(e.C, d.slot), top(first(d.top), 0)}, false
}

// giveSwap: by Cas the slot is the first one, and the count one more: or all begins anew.
func (d *doer) giveSwap(e layout.Env) (touch, bool) {
	d.at = d.giveFirst
	return d.swap(e, d.slot)
}

func (d *doer) swap(e layout.Env, s int) (touch, bool) {
	if w := e.M.Peek(topAt); w != d.top {
		return touch{topAt, w}, false
	}
	return touch{topAt, top(s, count(d.top)+1)}, true
}

// seat is one of several: what it does now, what the chapter tells of it, and the slots that it has.
type seat struct {
	take *slot.Take
	give *slot.Give
	told *doer
	has  []int
}

// crowd is several who work in one memory, and the slots that are free, the first one last.
type crowd struct {
	t     *testing.T
	e     layout.Env
	seats []seat
	free  []int
	ended int
}

func newCrowd(t *testing.T, slots, seats int) *crowd {
	t.Helper()
	c := &crowd{t: t, e: filled(t, slots, 0), seats: make([]seat, seats)}
	for s := range slots {
		c.free = append(c.free, slots-1-s)
	}
	return c
}

// busy is whether somebody is on the way.
func (c *crowd) busy(who int) bool {
	return c.seats[who].told != nil
}

// toTake lets somebody begin to take.
func (c *crowd) toTake(who int) {
	s := &c.seats[who]
	s.take, s.told = &slot.Take{}, newTaker()
}

// toGive lets somebody begin to give the slot that it has longest.
func (c *crowd) toGive(who int) {
	s := &c.seats[who]
	s.give, s.told = slot.NewGive(s.has[0]), newGiver(s.has[0])
	s.has = s.has[1:]
}

// begin lets somebody begin: who has no slot takes one; who has as many as it may gives one back.
func (c *crowd) begin(who, most int) {
	if len(c.seats[who].has) < most {
		c.toTake(who)
		return
	}
	c.toGive(who)
}

// pick lets the one that is picked do a step, and asks that it is the one that the chapter tells.
func (c *crowd) pick(who int) {
	c.t.Helper()
	s := &c.seats[who]
	c.e.Who = who
	want, done := s.told.at(c.e)
	if s.take == nil {
		wantStep(c.t, c.e, s.give.Step, want, done)
	} else {
		wantStep(c.t, c.e, s.take.Step, want, done)
	}
	if done {
		c.end(s)
	} else if s.take != nil {
		wantSlot(c.t, s.take, 0, false)
	}
}

// end asks that what was done is what a plain pile of slots tells at that step.
func (c *crowd) end(s *seat) {
	c.t.Helper()
	c.ended++
	if s.take == nil {
		c.free = append(c.free, s.told.slot)
	} else if len(c.free) == 0 {
		wantSlot(c.t, s.take, 0, false)
	} else {
		last := len(c.free) - 1
		wantSlot(c.t, s.take, c.free[last], true)
		s.has = append(s.has, c.free[last])
		c.free = c.free[:last]
	}
	s.take, s.give, s.told = nil, nil, nil
	c.wantApart()
}

// wantApart asks that each slot is free or somebody's, and just once.
func (c *crowd) wantApart() {
	c.t.Helper()
	l := freeOnes(c.e)
	slices.Reverse(l)
	if !slices.Equal(l, c.free) {
		c.t.Fatalf("free are %v, not %v", l, c.free)
	}
	for _, s := range c.seats {
		l = append(l, s.has...)
		if s.give != nil {
			l = append(l, s.told.slot)
		}
	}
	slices.Sort(l)
	for i := range c.e.C.Slots {
		if len(l) != c.e.C.Slots || l[i] != i {
			c.t.Fatalf("slots of all are %v", l)
		}
	}
}

// rest lets all end what they do, and give back what they have, and asks that all is free, each once.
func (c *crowd) rest() {
	c.t.Helper()
	for who := range c.seats {
		for c.busy(who) || len(c.seats[who].has) > 0 {
			if !c.busy(who) {
				c.toGive(who)
			}
			c.pick(who)
		}
	}
	l := freeOnes(c.e)
	slices.Sort(l)
	for s := range c.e.C.Slots {
		if len(l) != c.e.C.Slots || l[s] != s {
			c.t.Fatalf("at the end free are %v", l)
		}
	}
}

// eachOrder plays so many who are picked in each order of so many picks.
func eachOrder(t *testing.T, slots, seats, length int) {
	orders := 1
	for range length {
		orders *= seats
	}
	for order := range orders {
		c := newCrowd(t, slots, seats)
		for rest, i := order, 0; i < length; i++ {
			who := rest % seats
			rest /= seats
			if !c.busy(who) {
				c.begin(who, 1)
			}
			c.pick(who)
		}
		c.rest()
	}
}

func TestTwoInEachOrder(t *testing.T) {
	for slots := 1; slots <= 3; slots++ {
		eachOrder(t, slots, 2, 11)
	}
}

func TestThreeInEachOrder(t *testing.T) {
	for slots := 1; slots <= 3; slots++ {
		eachOrder(t, slots, 3, 7)
	}
}

func TestManyWhoeverIsPicked(t *testing.T) {
	for seed := range uint64(60) {
		seats, slots, most := 1+int(seed%8), 1+int(seed/8%6), 1+int(seed%3)
		c := newCrowd(t, slots, seats)
		x := seed
		for range 1500 {
			x = x*6364136223846793005 + 1442695040888963407
			who := int(x >> 33 % uint64(seats))
			if !c.busy(who) {
				// Who may still take gives sometimes, too: else all could wait for slots that nobody gives.
				if x>>32&1 == 1 && len(c.seats[who].has) > 0 {
					c.toGive(who)
				} else {
					c.begin(who, most)
				}
			}
			c.pick(who)
		}
		c.rest()
	}
}

func TestSomeoneEndsWhoeverIsPicked(t *testing.T) {
	// A try is in vain only if another one ended: of each so many steps one is an end.
	for seed := range uint64(20) {
		const seats = 4
		c := newCrowd(t, 3, seats)
		x := seed
		for range 60 {
			was := c.ended
			for range 4*seats + 1 {
				x = x*6364136223846793005 + 1442695040888963407
				who := int(x >> 33 % seats)
				if !c.busy(who) {
					c.begin(who, 1)
				}
				c.pick(who)
			}
			if c.ended == was {
				t.Fatal("nobody ended")
			}
		}
	}
}

func TestOneThatIsNeverPickedAgainStopsNobody(t *testing.T) {
	for half := range 6 {
		c := newCrowd(t, 3, 3)
		for range half {
			if !c.busy(1) {
				c.begin(1, 1)
			}
			c.pick(1)
		}
		for range 40 {
			was := c.ended
			for _, who := range []int{0, 2} {
				if !c.busy(who) {
					c.begin(who, 1)
				}
				for c.busy(who) {
					c.pick(who)
				}
			}
			if c.ended != was+2 {
				t.Fatal("both end what they do")
			}
		}
		c.rest()
	}
}
