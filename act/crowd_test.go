package act_test

import (
	"cmp"
	"slices"
	"testing"

	"footlocker/act"
	"footlocker/api"
	"footlocker/compact"
	"footlocker/layout"
	"footlocker/mem"
)

// told is what a thread was told of an act.
type told struct {
	who          int
	x            api.Act
	done         api.Done
	began, ended int
}

// seat is a thread: what it does, and the same as the chapter tells it.
type seat struct {
	one   *act.Act
	two   *teller
	x     api.Act
	began int
}

// crowd is threads that act in one memory, and the same ones, as the chapter tells them, in another one; a compactor works in both.
type crowd struct {
	t        *testing.T
	e        layout.Env
	twin     *mem.Mem
	seats    []seat
	k, other *compact.Compactor
	told     []told
	made     []thing // objects of which the handles were told
}

func newCrowd(t *testing.T, c api.Config) *crowd {
	t.Helper()
	return &crowd{
		t: t, e: entered(t, c, 0), twin: entered(t, c, 0).M,
		seats: make([]seat, c.Threads), k: compact.New(), other: compact.New(),
	}
}

// busy is whether a thread is on the way.
func (c *crowd) busy(who int) bool { return c.seats[who].one != nil }

// begin lets a thread begin an act.
func (c *crowd) begin(who int, x api.Act) {
	c.t.Helper()
	c.seats[who] = seat{one: begun(c.t, x), two: newTeller(x), x: x, began: c.e.Now()}
}

// pick lets a thread do a step, and asks that it is the one that the chapter tells.
func (c *crowd) pick(who int) {
	c.t.Helper()
	s := &c.seats[who]
	now, want := c.e.Now(), pins(c.e)
	c.e.M.By(who + 1)
	done := s.one.Step(by(c.e, who))
	if is := s.two.Step(layout.Env{C: c.e.C, M: c.twin, Who: who}); done != is {
		c.t.Fatalf("%+v by %d: done is %v, not %v", s.x, who, done, is)
	}
	c.wantSame(now, who)
	// Just its own pin may be another one.
	is := pins(c.e)
	want[who] = is[who]
	if !slices.Equal(is, want) {
		c.t.Fatalf("by %d: the pins are %v, not %v", who, is, want)
	}
	if !done {
		wantDone(c.t, s.one, api.Done{})
		return
	}
	if is[who] != 0 {
		c.t.Fatalf("%d is done, and its pin is %d", who, is[who])
	}
	c.end(who)
}

// wantSame asks that the last step, if there was one, was one, by that one, the same in both memories, and not wild.
func (c *crowd) wantSame(now, who int) {
	c.t.Helper()
	if c.e.Now() != c.twin.Steps() || c.e.Now() > now+1 {
		c.t.Fatalf("by %d: %d steps, not %d", who, c.e.Now()-now, c.twin.Steps()-now)
	}
	if c.e.Now() == now {
		return
	}
	last := c.e.M.Last()
	if last != c.twin.Last() || last.Who != who {
		c.t.Fatalf("by %d: noted is %v, not %v", who, last, c.twin.Last())
	}
	// All words were the same ahead of it, so that just the one that was touched can be another one.
	if w := c.e.M.Peek(last.Addr); w != c.twin.Peek(last.Addr) {
		c.t.Fatalf("word %d is %#x, not %#x", last.Addr, w, c.twin.Peek(last.Addr))
	}
	wantGiven(c.t, c.e)
}

// end notes what a thread was told; that is what the layers below tell.
func (c *crowd) end(who int) {
	c.t.Helper()
	s := &c.seats[who]
	d := s.one.Done()
	if want := s.two.does.Done(); d != want {
		c.t.Fatalf("%+v came to %+v, not %+v", s.x, d, want)
	}
	c.told = append(c.told, told{who: who, x: s.x, done: d, began: s.began, ended: c.e.Now()})
	if s.x.Kind == 1 && d.E == api.OK {
		c.made = append(c.made, thing{slot: int(d.Handle & (1<<16 - 1)), gen: int(d.Handle >> 16), size: s.x.Size, own: s.x.Own})
	}
	*s = seat{}
}

// compact lets the compactor do a step.
func (c *crowd) compact() {
	c.t.Helper()
	now := c.e.Now()
	c.k.Step(by(c.e, api.Compactor))
	c.other.Step(layout.Env{C: c.e.C, M: c.twin, Who: api.Compactor})
	c.wantSame(now, api.Compactor)
}

// compacts lets the compactor do so many steps.
func (c *crowd) compacts(n int) {
	c.t.Helper()
	for range n {
		c.compact()
	}
}

// run lets a thread work on till it is done: what it was told.
func (c *crowd) run(who int) api.Done {
	c.t.Helper()
	for most := 300 + 3*c.e.C.Chunks; c.busy(who); most-- {
		if most < 0 {
			c.t.Fatalf("%d is not done", who)
		}
		c.pick(who)
	}
	return c.told[len(c.told)-1].done
}

// do lets a thread that is picked alone do an act: what it was told.
func (c *crowd) do(who int, x api.Act) api.Done {
	c.t.Helper()
	c.begin(who, x)
	return c.run(who)
}

// picked lets a thread do so many steps, unless it is done.
func (c *crowd) picked(who, steps int) {
	c.t.Helper()
	for range steps {
		if c.busy(who) {
			c.pick(who)
		}
	}
}

// make makes an object, by a thread that is picked alone; each word is v and its number.
func (c *crowd) make(who, size int, own bool, v int) thing {
	c.t.Helper()
	if d := c.do(who, makes(size, own)); d.E != api.OK {
		c.t.Fatal(d)
	}
	x := c.made[len(c.made)-1]
	for k := range size {
		c.do(who, writes(x.number(), k, v+k, own))
	}
	return x
}

// rest lets all threads end what they do; then all must be as it must be.
func (c *crowd) rest() {
	c.t.Helper()
	for who := range c.seats {
		if c.busy(who) {
			c.run(who)
		}
		if w := c.e.M.Peek(pinAt(who)); w != 0 {
			c.t.Fatalf("thread %d is pinned, at %d", who, w)
		}
	}
	if !slices.Equal(words(c.e.M), words(c.twin)) {
		c.t.Fatal("the words are others")
	}
	c.wantLinear()
}

// plain is an object as a plain store has it.
type plain struct {
	words []int
	own   bool
}

// wantLinear asks that what was told is what a plain store tells, each done at once at its step, while it was under way; and that what that store has at the end is there.
func (c *crowd) wantLinear() {
	c.t.Helper()
	l := slices.Clone(c.told)
	slices.SortStableFunc(l, func(a, b told) int { return cmp.Compare(a.done.Stamp, b.done.Stamp) })
	store := map[uint64]plain{}
	handles := map[uint64]int{}
	for _, x := range l {
		if x.done.Stamp <= x.began || x.done.Stamp >= x.ended {
			c.t.Fatalf("%+v took effect while it was not under way", x)
		}
		x.done.Stamp = 0
		if n := x.done.Handle; n != 0 {
			if handles[n]++; handles[n] > 1 {
				c.t.Fatalf("%#x was told twice", n)
			}
		}
		if want := once(store, x); x.done != want {
			c.t.Fatalf("%+v was told, and not %+v, of all of these: %+v", x, want, l)
		}
	}
	for number, o := range store {
		x := found(c.e, int(number&(1<<16-1)))
		if x.state != live && x.state != moving || x.gen != int(number>>16) || x.size != len(o.words) || x.own != o.own {
			c.t.Fatalf("%#x is %+v", number, x)
		}
		for k, v := range o.words {
			if is := valueOf(c.e.M.Peek(x.at(k))); is != v {
				c.t.Fatalf("word %d of %#x is %d, not %d", k, number, is, v)
			}
		}
	}
}

// once does an act at once in a plain store: what it must be told.
func once(store map[uint64]plain, x told) api.Done {
	a := x.x
	if a.Kind == 1 {
		return make1(store, x)
	}
	o, is := store[a.Handle]
	if !is || o.own != a.Own {
		return api.Done{E: api.ErrInvalid}
	}
	if a.Kind == 2 {
		delete(store, a.Handle)
		return api.Done{}
	}
	if a.Index < 0 || a.Index >= len(o.words) {
		return api.Done{E: api.ErrIndex}
	}
	was := o.words[a.Index]
	if a.Kind == 5 && was != a.Old {
		return api.Done{E: api.ErrOther, Value: was}
	}
	if a.Kind != 3 {
		o.words[a.Index] = a.Value
	}
	return api.Done{Value: was}
}

// make1 makes an object by the handle that was told; that there is no handle, or no room, may be told in its place.
func make1(store map[uint64]plain, x told) api.Done {
	if x.x.Size < 1 || x.x.Size > 16 {
		return api.Done{E: api.ErrSize}
	}
	if x.done.E == api.ErrHandles || x.done.E == api.ErrMemory {
		return api.Done{E: x.done.E}
	}
	n := x.done.Handle
	if _, is := store[n]; is || n == 0 {
		return api.Done{E: api.ErrHandles}
	}
	store[n] = plain{make([]int, x.x.Size), x.x.Own}
	return api.Done{Handle: n}
}
