package shelf_test

import (
	"cmp"
	"slices"
	"testing"

	"footlocker/api"
	"footlocker/compact"
	"footlocker/layout"
	"footlocker/list"
	"footlocker/shelf"
)

// told is what a thread was told of what it asked.
type told struct {
	kind, key    int
	done         api.Done
	began, ended int
}

// crowd is threads that ask things of one shelf.
type crowd struct {
	t     *testing.T
	e     layout.Env
	s     *shelf.Shelf
	seats []*list.List
	now   []told // what each of them asks
	told  []told
}

func newCrowd(t *testing.T, c api.Config, lists int) *crowd {
	t.Helper()
	e := entered(t, c, 0)
	return &crowd{t: t, e: e, s: made(t, e, lists), seats: make([]*list.List, c.Threads), now: make([]told, c.Threads)}
}

// begin lets a thread begin to ask something.
func (c *crowd) begin(who, kind, key int) {
	c.t.Helper()
	c.seats[who] = asks(c.t, c.s, kind, key)
	c.now[who] = told{kind: kind, key: key, began: c.e.Now()}
}

// pick lets a thread that asks something do a step.
func (c *crowd) pick(who int) {
	c.t.Helper()
	if !c.seats[who].Step(by(c.e, who)) {
		return
	}
	x := c.now[who]
	x.done, x.ended = c.seats[who].Done(), c.e.Now()
	c.told = append(c.told, x)
	c.seats[who] = nil
}

// rest lets all threads end what they ask; then all is as a plain set tells, that did each at its step.
func (c *crowd) rest() {
	c.t.Helper()
	for who := range c.seats {
		for most := 99999; c.seats[who] != nil; most-- {
			if most < 0 {
				c.t.Fatalf("%d is not done", who)
			}
			c.pick(who)
		}
	}
	slices.SortStableFunc(c.told, func(a, b told) int { return cmp.Compare(a.done.Stamp, b.done.Stamp) })
	set := map[int]int{}
	for _, x := range c.told {
		if x.done.Stamp <= x.began || x.done.Stamp >= x.ended {
			c.t.Fatalf("%+v took effect while it was not under way", x)
		}
		x.done.Stamp = 0
		if want := once(set, x.kind, x.key, x.done.E); x.done != want {
			c.t.Fatalf("%+v was told, and not %+v, of all of these: %+v", x, want, c.told)
		}
	}
	wantKeys(c.t, c.e, c.s, set)
}

func TestManyWhoeverIsPicked(t *testing.T) {
	t.Parallel()
	// By mixed picks, with a compactor and without.
	counts := map[api.Done]int{}
	for seed := range 160 {
		lists := 1 + seed%mostLists
		a := arena(lists+4+seed*5%17, 1+seed%9, 24+seed*7%40)
		a.Threads = 2 + seed/5%7
		c := newCrowd(t, a, lists)
		k := compact.New()
		x := uint64(seed)
		for range 4000 {
			var who, kind, n int
			who, x = mixed(x, a.Threads+1)
			if who == a.Threads {
				if seed%2 == 0 {
					k.Step(by(c.e, api.Compactor))
				}
				continue
			}
			if c.seats[who] == nil {
				kind, x = mixed(x, 3)
				n, x = mixed(x, 2+seed%7)
				c.begin(who, 1+kind, anyKey(n, seed))
			}
			c.pick(who)
		}
		c.rest()
		for _, x := range c.told {
			x.done.Stamp = 0
			counts[x.done]++
		}
	}
	for _, d := range []api.Done{{}, {Value: 1}, {E: api.ErrHandles}, {E: api.ErrMemory}} {
		if counts[d] < 100 {
			t.Errorf("%+v was told %d times", d, counts[d])
		}
	}
}

func TestTwoAddTheSameKey(t *testing.T) {
	// One is told 1, the other one 0, whoever is ahead.
	for lists := 1; lists <= mostLists; lists++ {
		for ahead := range 70 {
			c := newCrowd(t, arena(20, 4, 60), lists)
			c.begin(0, add, 7)
			c.begin(1, add, 7)
			for range ahead {
				if c.seats[0] != nil {
					c.pick(0)
				}
			}
			for c.seats[1] != nil {
				c.pick(1)
			}
			c.rest()
			if sum := c.told[0].done.Value + c.told[1].done.Value; sum != 1 {
				t.Fatalf("%d lists, %d steps: %+v", lists, ahead, c.told)
			}
		}
	}
}
