package compact_test

import (
	"cmp"
	"slices"
	"testing"

	"footlocker/access"
	"footlocker/alloc"
	"footlocker/api"
	"footlocker/compact"
	"footlocker/drop"
	"footlocker/layout"
	"footlocker/mem"
	"footlocker/pin"
)

// call is a thread that pins the epoch, does something, and lets its pin go.
type call struct {
	in     pin.In
	act    stepper
	pinned bool
	acted  bool
}

func (a *call) Step(e layout.Env) bool {
	switch {
	case !a.pinned:
		a.pinned = a.in.Step(e)
	case !a.acted:
		a.acted = a.act.Step(e)
	default:
		return pin.Out{}.Step(e)
	}
	return false
}

// told is what a thread was told.
type told struct {
	made, gone   bool // an object was made, or let go; or else:
	want         api.Want
	own          bool
	size         int
	done         api.Done
	began, ended int
}

// seat is a thread: what it does, and the same in the other memory; when it has pinned.
type seat struct {
	one, two *call
	end      func() told
	began    int
	since    int
}

// crowd is threads and a compactor that work in one memory, and the same ones, but for a compactor as the chapter tells it, in another one.
type crowd struct {
	t     *testing.T
	e     layout.Env
	twin  *mem.Mem
	seats []seat
	c     *compact.Compactor
	p     *teller
	told  []told
	made  []thing // objects of which the handles were told, where they stood then
	shut  []int   // of each chunk, the step at which it was Quiet; 0: it is not
}

func newCrowd(t *testing.T, c api.Config) *crowd {
	t.Helper()
	return &crowd{
		t: t, e: entered(t, c), twin: entered(t, c).M,
		seats: make([]seat, c.Threads), shut: make([]int, c.Chunks),
		c: compact.New(), p: newTeller(),
	}
}

// busy is whether a thread is on the way.
func (c *crowd) busy(who int) bool { return c.seats[who].one != nil }

// begin lets a thread begin something.
func (c *crowd) begin(who int, one, two stepper, end func() told) {
	c.seats[who] = seat{one: &call{act: one}, two: &call{act: two}, end: end, began: c.e.Now()}
}

// access lets a thread begin to read or lay a word.
func (c *crowd) access(who int, want api.Want, own bool) {
	a := access.New(want, own)
	c.begin(who, a, access.New(want, own), func() told {
		return told{want: want, own: own, done: a.Done()}
	})
}

// alloc lets a thread begin to make an object.
func (c *crowd) alloc(who, size int, own bool) {
	a := alloc.New(size, own)
	c.begin(who, a, alloc.New(size, own), func() told {
		d := a.Done()
		if d.E == api.OK {
			s := int(d.Handle & (1<<16 - 1))
			c.made = append(c.made, thing{slot: s, gen: int(d.Handle >> 16), size: size, own: own, addr: addrOf(c.e.M.Peek(slotAt(c.e.C, s)))})
		}
		return told{made: true, want: api.Want{Handle: d.Handle}, own: own, size: size, done: d}
	})
}

// drop lets a thread begin to let an object go.
func (c *crowd) drop(who int, x thing) {
	d := drop.New(x.number(), x.own)
	c.begin(who, d, drop.New(x.number(), x.own), func() told {
		return told{gone: true, want: api.Want{Handle: x.number()}, own: x.own, done: d.Done()}
	})
}

// pick lets a thread do a step.
func (c *crowd) pick(who int) {
	c.t.Helper()
	s := &c.seats[who]
	now := c.e.Now()
	done, want := s.one.Step(by(c.e, who)), s.two.Step(layout.Env{C: c.e.C, M: c.twin, Who: who})
	if done != want || c.e.Now() != now+1 || c.e.M.Last() != c.twin.Last() {
		c.t.Fatalf("by %d: %v, %v, not %v, %v", who, done, c.e.M.Last(), want, c.twin.Last())
	}
	wantGiven(c.t, c.e)
	if s.one.pinned && s.since == 0 {
		s.since = c.e.Now()
	}
	if done {
		x := s.end()
		x.began, x.ended = s.began, c.e.Now()
		c.told = append(c.told, x)
		*s = seat{}
	}
}

// compact lets the compactor do a step, and asks that it is the one that the chapter tells, and does no harm.
func (c *crowd) compact() {
	c.t.Helper()
	last := c.e.Now()
	follow(c.t, c.e, c.c, c.p, c.twin)
	if c.e.Now() != last+1 {
		c.t.Fatalf("%d steps, not one", c.e.Now()-last)
	}
	touched := c.e.M.Last()
	if !touched.Changed {
		return
	}
	if i := chunkOf(c.e.C, touched.Addr); i >= 0 {
		if c.shut[i] != 0 {
			c.wantUnseen(i)
		}
		return
	}
	for i, w := range chunkWords(c.e) {
		if touched.Addr == chunkAt(c.e.C, i) {
			c.turn(i, kindOf(w))
		}
	}
}

// turn notes in which state a chunk is by the last step. One that is Quiet has no objects any more; nor may one be free into which a thread could look.
func (c *crowd) turn(i, state int) {
	c.t.Helper()
	if state == quiet || state == free {
		for _, x := range wantApart(c.t, c.e) {
			if chunkOf(c.e.C, x.addr) == i {
				c.t.Fatalf("%v stands in chunk %d", x, i)
			}
		}
	}
	if state == free && c.shut[i] != 0 {
		c.wantUnseen(i)
	}
	c.shut[i] = 0
	if state == quiet {
		c.shut[i] = c.e.Now()
	}
}

// wantUnseen asks that no thread has been pinned since a time at which the chunk was not yet Quiet: such a one could have found an object there, ahead of its being moved.
func (c *crowd) wantUnseen(i int) {
	c.t.Helper()
	for who, s := range c.seats {
		if s.since != 0 && s.since <= c.shut[i] {
			c.t.Fatalf("thread %d has pinned at step %d; chunk %d, Quiet at step %d, is changed", who, s.since, i, c.shut[i])
		}
	}
}

// compacts lets the compactor do so many steps.
func (c *crowd) compacts(n int) {
	c.t.Helper()
	for range n {
		c.compact()
	}
}

// run lets a thread work on till it is done: what it was told.
func (c *crowd) run(who int) api.Done {
	c.t.Helper()
	for most := 300 + 3*c.e.C.Chunks; c.busy(who); most-- {
		if most < 0 {
			c.t.Fatalf("%d is not done", who)
		}
		c.pick(who)
	}
	return c.told[len(c.told)-1].done
}

// picked lets a thread do so many steps, unless it is done.
func (c *crowd) picked(who, steps int) {
	c.t.Helper()
	for range steps {
		if c.busy(who) {
			c.pick(who)
		}
	}
}

// make makes an object, by a thread that is picked alone; each word is v and its number.
func (c *crowd) make(who, size int, own bool, v int) thing {
	c.t.Helper()
	c.alloc(who, size, own)
	if d := c.run(who); d.E != api.OK {
		c.t.Fatal(d)
	}
	x := c.made[len(c.made)-1]
	for k := range size {
		c.access(who, x.write(k, v+k), own)
		c.run(who)
	}
	return x
}

// read is what a thread that is picked alone reads.
func (c *crowd) read(who int, x thing, k int) api.Done {
	c.t.Helper()
	c.access(who, x.read(k), x.own)
	return c.run(who)
}

// letGo lets objects go, by a thread that is picked alone.
func (c *crowd) letGo(who int, l ...thing) {
	c.t.Helper()
	for _, x := range l {
		c.drop(who, x)
		if d := c.run(who); d.E != api.OK {
			c.t.Fatal(d)
		}
	}
}

// rest lets all threads end what they do, and the compactor work on till nothing is left to be done; then all must be as it must be.
func (c *crowd) rest() {
	c.t.Helper()
	for who := range c.seats {
		if c.busy(who) {
			c.run(who)
		}
		if w := c.e.M.Peek(pinAt(who)); w != 0 {
			c.t.Fatalf("thread %d is pinned, at %d", who, w)
		}
	}
	// While somebody was pinned, nothing may have been done in a round though a chunk waited: that is over behind as many epochs as it waits for.
	first := c.c.Work().Rounds
	for c.c.Busy() || c.c.Idle() == 0 || c.c.Work().Rounds <= first+grace {
		if n := c.c.Work().Rounds - first; n > 20+6*c.e.C.Chunks {
			c.t.Fatalf("behind %d rounds it does not rest: %+v", n, c.c.Work())
		}
		c.compact()
	}
	wantRest(c.t, c.e)
	c.leave()
}

// leave asks that all is as it must be, though some may be on the way: nobody picks them any more.
func (c *crowd) leave() {
	c.t.Helper()
	if !slices.Equal(words(c.e.M), words(c.twin)) {
		c.t.Fatal("the words are others")
	}
	wantApart(c.t, c.e)
	c.wantLinear()
	c.p.stop()
}

// plain is an object as a plain store has it.
type plain struct {
	words []int
	own   bool
}

// wantLinear asks that what was told is what a plain store tells, each done at once at its step, while it was under way; and that what that store has at the end is there, unless one is on the way that may have changed it.
func (c *crowd) wantLinear() {
	c.t.Helper()
	l := slices.Clone(c.told)
	slices.SortStableFunc(l, func(a, b told) int { return cmp.Compare(a.done.Stamp, b.done.Stamp) })
	store := map[uint64]plain{}
	for _, x := range l {
		if x.done.Stamp < x.began || x.done.Stamp > x.ended {
			c.t.Fatalf("%v took effect while it was not under way", x)
		}
		x.done.Stamp = 0
		if x.made && x.done.E != api.OK {
			continue
		}
		if want := once(store, x); x.done != want {
			c.t.Fatalf("%v was told, and not %v, of all of these: %v", x, want, l)
		}
	}
	for number, o := range store {
		x := found(c.e, int(number&(1<<16-1)))
		if x.state != live && x.state != moving || x.gen != int(number>>16) || x.size != len(o.words) || x.own != o.own {
			c.t.Fatalf("%#x is %v", number, x)
		}
		for k, v := range o.words {
			if is := valueOf(c.e.M.Peek(x.at(k))); is != v {
				c.t.Fatalf("word %d of %#x is %d, not %d", k, number, is, v)
			}
		}
	}
}

// once does one thing at once in a plain store: what it must be told.
func once(store map[uint64]plain, x told) api.Done {
	o, is := store[x.want.Handle]
	if x.made {
		if is {
			return api.Done{E: api.ErrHandles}
		}
		store[x.want.Handle] = plain{make([]int, x.size), x.own}
		return api.Done{Handle: x.want.Handle}
	}
	if !is || o.own != x.own {
		return api.Done{E: api.ErrInvalid}
	}
	if x.gone {
		delete(store, x.want.Handle)
		return api.Done{}
	}
	k := x.want.Index
	if k < 0 || k >= len(o.words) {
		return api.Done{E: api.ErrIndex}
	}
	was := o.words[k]
	if x.want.Kind == api.DoCas && was != x.want.Old {
		return api.Done{E: api.ErrOther, Value: was}
	}
	if x.want.Kind != api.DoRead {
		o.words[k] = x.want.Value
	}
	return api.Done{Value: was}
}
