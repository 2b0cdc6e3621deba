package list_test

import (
	"cmp"
	"slices"
	"testing"

	"footlocker/api"
	"footlocker/compact"
	"footlocker/layout"
	"footlocker/list"
	"footlocker/mem"
)

// told is what a thread was told of what it asked.
type told struct {
	who, kind, key int
	head           uint64
	done           api.Done
	began, ended   int
}

// seat is a thread: what it asks, and somebody who does the same.
type seat struct {
	one       *list.List
	two       other
	kind, key int
	head      uint64
	began     int
}

// crowd is threads that ask something of lists in one memory, and others that do the same in another one; a compactor works in both.
type crowd struct {
	t        *testing.T
	e        layout.Env
	twin     *mem.Mem
	heads    []uint64
	seats    []seat
	k, other *compact.Compactor
	told     []told
}

// newCrowd is a crowd with so many lists.
func newCrowd(t *testing.T, c api.Config, lists int) *crowd {
	t.Helper()
	w := &crowd{
		t: t, e: entered(t, c, 0), twin: entered(t, c, 0).M,
		seats: make([]seat, c.Threads), k: compact.New(), other: compact.New(),
	}
	for range lists {
		w.heads = append(w.heads, w.act(0, makes()).Handle)
	}
	return w
}

// act lets a thread do an act, alone.
func (c *crowd) act(who int, x api.Act) api.Done {
	c.t.Helper()
	d := did(c.t, by(c.e, who), x)
	if d.E != api.OK {
		c.t.Fatalf("%+v came to %+v", x, d)
	}
	did(c.t, layout.Env{C: c.e.C, M: c.twin, Who: who}, x)
	return d
}

// busy is whether a thread is on the way.
func (c *crowd) busy(who int) bool { return c.seats[who].one != nil }

// begin lets a thread begin to ask something of the first list.
func (c *crowd) begin(who, kind, key int) {
	c.t.Helper()
	c.beginAt(who, kind, key, c.heads[0])
}

// beginAt is the same of any list.
func (c *crowd) beginAt(who, kind, key int, head uint64) {
	c.t.Helper()
	c.beginWith(who, kind, key, head, newTeller(kind, key, head))
}

// beginWith lets a thread begin to ask something, and somebody else to do the same.
func (c *crowd) beginWith(who, kind, key int, head uint64, two other) {
	c.t.Helper()
	c.seats[who] = seat{one: asks(c.t, kind, key, head), two: two, kind: kind, key: key, head: head, began: c.e.Now()}
}

// pick lets a thread do a step, and asks that it is the one that the other one does.
func (c *crowd) pick(who int) {
	c.t.Helper()
	s := &c.seats[who]
	now, pin := c.e.Now(), c.e.M.Peek(pinAt(who))
	c.e.M.By(who + 1)
	done := s.one.Step(by(c.e, who))
	if is := s.two.Step(layout.Env{C: c.e.C, M: c.twin, Who: who}); done != is {
		c.t.Fatalf("kind %d, key %d by %d: done is %v, not %v", s.kind, s.key, who, done, is)
	}
	c.wantSame(now, who)
	if !done {
		wantDone(c.t, s.one, api.Done{})
		return
	}
	if w := c.e.M.Peek(pinAt(who)); w != 0 || pin == 0 {
		c.t.Fatalf("%d is done, and its pin is %d", who, w)
	}
	c.end(who)
}

// wantSame asks that the last step, if there was one, was one, by that one, the same in both memories, and safe.
func (c *crowd) wantSame(now, who int) {
	c.t.Helper()
	if c.e.Now() != c.twin.Steps() || c.e.Now() > now+1 {
		c.t.Fatalf("by %d: %d steps, not %d", who, c.e.Now()-now, c.twin.Steps()-now)
	}
	if c.e.Now() == now {
		return
	}
	last := c.e.M.Last()
	if last != c.twin.Last() || last.Who != who {
		c.t.Fatalf("by %d: noted is %v, not %v", who, last, c.twin.Last())
	}
	// All words were the same ahead of it, so that just the one that was touched can be another one.
	if w := c.e.M.Peek(last.Addr); w != c.twin.Peek(last.Addr) {
		c.t.Fatalf("word %d is %#x, not %#x", last.Addr, w, c.twin.Peek(last.Addr))
	}
	wantSafe(c.t, c.e)
}

// end notes what a thread was told; that is what the other one came to.
func (c *crowd) end(who int) {
	c.t.Helper()
	s := &c.seats[who]
	d := s.one.Done()
	if want := s.two.came(); d != want {
		c.t.Fatalf("kind %d, key %d came to %+v, not %+v", s.kind, s.key, d, want)
	}
	wantNoStep(c.t, c.e, func() {
		if !s.one.Step(by(c.e, who)) {
			c.t.Fatal("it was done")
		}
		wantDone(c.t, s.one, d)
	})
	c.told = append(c.told, told{who, s.kind, s.key, s.head, d, s.began, c.e.Now()})
	*s = seat{}
}

// compacts lets the compactor do so many steps.
func (c *crowd) compacts(n int) {
	c.t.Helper()
	for range n {
		now := c.e.Now()
		c.k.Step(by(c.e, api.Compactor))
		c.other.Step(layout.Env{C: c.e.C, M: c.twin, Who: api.Compactor})
		c.wantSame(now, api.Compactor)
	}
}

// run lets a thread work on till it is done: what it was told.
func (c *crowd) run(who int) api.Done {
	c.t.Helper()
	for most := 500 + 60*c.e.C.Slots + 9*c.e.C.Chunks; c.busy(who); most-- {
		if most < 0 {
			c.t.Fatalf("%d is not done", who)
		}
		c.pick(who)
	}
	return c.told[len(c.told)-1].done
}

// do lets a thread that is picked alone ask something of the first list: what it was told.
func (c *crowd) do(who, kind, key int) api.Done {
	c.t.Helper()
	c.begin(who, kind, key)
	return c.run(who)
}

// picked lets a thread do so many steps, unless it is done.
func (c *crowd) picked(who, steps int) {
	c.t.Helper()
	for range steps {
		if c.busy(who) {
			c.pick(who)
		}
	}
}

// fill lets keys come into the first list, one behind the other.
func (c *crowd) fill(l ...int) {
	c.t.Helper()
	for _, key := range l {
		if d := c.do(0, add, key); d.E != api.OK || d.Value != 1 {
			c.t.Fatal(d)
		}
	}
}

// rest lets all threads end what they do; then all must be as it must be, and each object that lives is a node of a list.
func (c *crowd) rest() {
	c.t.Helper()
	for who := range c.seats {
		if c.busy(who) {
			c.run(who)
		}
		if w := c.e.M.Peek(pinAt(who)); w != 0 {
			c.t.Fatalf("thread %d is pinned, at %d", who, w)
		}
	}
	if !slices.Equal(words(c.e.M), words(c.twin)) {
		c.t.Fatal("the words are others")
	}
	c.wantLinear()
	nodes := 0
	for _, head := range c.heads {
		nodes += 1 + len(walked(c.t, c.e, head))
	}
	if n := owned(c.e); n != nodes {
		c.t.Fatalf("%d objects live, and there are %d nodes", n, nodes)
	}
	wantSlots(c.t, c.e)
}

// wantLinear asks that what was told is what plain sets tell, each done at once at its step, while it was under way; and that what those have at the end is there.
func (c *crowd) wantLinear() {
	c.t.Helper()
	l := slices.Clone(c.told)
	slices.SortStableFunc(l, func(a, b told) int { return cmp.Compare(a.done.Stamp, b.done.Stamp) })
	sets := map[uint64]map[int]int{}
	for _, head := range c.heads {
		sets[head] = map[int]int{}
	}
	for _, x := range l {
		if x.done.Stamp <= x.began || x.done.Stamp >= x.ended {
			c.t.Fatalf("%+v took effect while it was not under way", x)
		}
		x.done.Stamp = 0
		if want := once(sets[x.head], x); x.done != want {
			c.t.Fatalf("%+v was told, and not %+v, of all of these: %+v", x, want, l)
		}
	}
	for _, head := range c.heads {
		var want []int
		for key := range sets[head] {
			want = append(want, key)
		}
		slices.Sort(want)
		if is := keys(c.t, c.e, head); !slices.Equal(is, want) {
			c.t.Fatalf("the keys are %v, not %v", is, want)
		}
	}
}

// once asks something at once of a plain set: what must be told. That there is no handle, or no room, may be told in the place of a key.
func once(set map[int]int, x told) api.Done {
	if set == nil {
		return api.Done{E: api.ErrInvalid}
	}
	if x.kind == add && (x.done.E == api.ErrHandles || x.done.E == api.ErrMemory) {
		return api.Done{E: x.done.E}
	}
	was := set[x.key]
	switch x.kind {
	case add:
		set[x.key] = 1
		return api.Done{Value: 1 - was}
	case remove:
		delete(set, x.key)
	}
	return api.Done{Value: was}
}
