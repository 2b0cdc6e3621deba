package epoch_test

import (
	"testing"

	"footlocker/api"
	"footlocker/layout"
	"footlocker/pin"
)

// thread is a thread that pins the epoch, and lets its pin go: whether it has pinned, which epoch, and at which step of the memory.
type thread struct {
	in     *pin.In
	pinned bool
	epoch  uint64
	when   int
}

// crowd is threads, and a compactor that lets the epoch go on, evacuates chunks in which nothing lives, and settles them.
type crowd struct {
	t       *testing.T
	e       layout.Env
	threads []thread
	goer    goer
	plain   *plainGoer
	settler settler
	at      int   // the chunk that is settled; -1: none
	shut    []int // of each chunk, the step at which it was Quiet; 0: it is not
	went    int
	freed   int
}

func newCrowd(t *testing.T, threads, chunks int) *crowd {
	t.Helper()
	c := &crowd{t: t, e: filled(t, arena(threads, chunks, 17), 3), at: -1}
	c.threads = make([]thread, threads)
	c.shut = make([]int, chunks)
	for i := range chunks {
		lay(c.e, i, chunk(open, 1, 5, 1), all)
	}
	return c
}

// pick lets a thread do a step: it pins, and who has pinned lets its pin go.
func (c *crowd) pick(who int) {
	c.t.Helper()
	x := &c.threads[who]
	e := c.e
	e.Who = who
	if x.pinned {
		pin.Out{}.Step(e)
		*x = thread{}
		return
	}
	if x.in == nil {
		x.in = &pin.In{}
	}
	if x.in.Step(e) {
		*x = thread{pinned: true, epoch: e.M.Peek(epochAt), when: e.Now()}
	}
}

// goOn does a step of the one that lets the epoch go on, and begins anew when that is done.
func (c *crowd) goOn() {
	c.t.Helper()
	if c.plain == nil {
		c.goer, c.plain = newGoer(), newPlainGoer()
	}
	c.plain.follow(c.t, c.e, c.goer)
	if c.plain.done {
		if c.plain.went {
			c.went++
		}
		c.plain = nil
	}
	c.wantHeld()
}

// wantHeld asks that the epoch is that which each thread has pinned, or the next one.
func (c *crowd) wantHeld() {
	c.t.Helper()
	now := c.e.M.Peek(epochAt)
	for who, x := range c.threads {
		if x.pinned && now != x.epoch && now != x.epoch+1 {
			c.t.Fatalf("thread %d has pinned %d, and the epoch is %d", who, x.epoch, now)
		}
	}
}

// shutChunk lets a chunk be Quiet, as it is done: the epoch is loaded, and laid behind its live words; then its word.
func (c *crowd) shutChunk(i int) {
	w := wordOf(c.e, i)
	c.e.Store(sinceAt(c.e.C, i), c.e.Load(epochAt))
	c.e.Store(chunkAt(c.e.C, i), chunk(quiet, 1, usedOf(w), stampOf(w)+1))
	c.shut[i] = c.e.Now()
}

// settle does a step of the one that settles a chunk, and asks whether somebody could look into it.
func (c *crowd) settle(i int) {
	c.t.Helper()
	if c.at < 0 {
		c.at, c.settler = i, newSettler(i)
	}
	i = c.at
	done := c.settler.Step(c.e)
	if c.e.M.Last().Changed {
		c.wantUnseen(i)
	}
	if !done {
		return
	}
	c.at = -1
	if c.settler.Freed() != (c.shut[i] != 0 && stateOf(wordOf(c.e, i)) == free) {
		c.t.Fatalf("chunk %d is %#x, and it is told that it was freed is %v", i, wordOf(c.e, i), c.settler.Freed())
	}
	if c.settler.Freed() {
		c.freed++
		c.shut[i] = 0
	}
}

// wantUnseen asks that nobody has been pinned since a time at which the chunk was not yet Quiet: whoever has could have found an object there, ahead of its being moved.
func (c *crowd) wantUnseen(i int) {
	c.t.Helper()
	for who, x := range c.threads {
		if x.pinned && x.when <= c.shut[i] {
			c.t.Fatalf("thread %d has pinned %d at step %d; chunk %d, Quiet at step %d, is changed", who, x.epoch, x.when, i, c.shut[i])
		}
	}
}

// rest lets threads let their pins go, and asks that the epoch goes on then, as often as it is tried, and that no chunk is left to be free.
func (c *crowd) rest() {
	c.t.Helper()
	for who := range c.threads {
		for c.threads[who].in != nil || c.threads[who].pinned {
			c.pick(who)
		}
	}
	for c.plain != nil {
		c.goOn()
	}
	for range grace {
		now := c.e.M.Peek(epochAt)
		if !wantEnd(c.t, c.e, newGoer()) || c.e.M.Peek(epochAt) != now+1 {
			c.t.Fatal("nobody is pinned")
		}
	}
	for c.at >= 0 {
		c.settle(c.at)
	}
	for i, when := range c.shut {
		if when != 0 && !wantEnd(c.t, c.e, newSettler(i)) {
			c.t.Fatalf("chunk %d is left to be free", i)
		}
	}
}

func TestTwoThreadsAndTheEpochInEachOrder(t *testing.T) {
	const length = 9
	orders := 1
	for range length {
		orders *= 3
	}
	for order := range orders {
		c := newCrowd(t, 2, 1)
		for rest, i := order, 0; i < length; i++ {
			if rest%3 == 2 {
				c.goOn()
			} else {
				c.pick(rest % 3)
			}
			rest /= 3
		}
		c.rest()
	}
}

func TestAllThreadsWhoeverIsPicked(t *testing.T) {
	for seed := range uint64(40) {
		threads := 1 + int(seed%api.MostThreads)
		c := newCrowd(t, threads, 1)
		x := seed
		var who int
		for range 600 {
			// The epoch is picked as often as all threads, so that it does go on.
			who, x = mixed(x, 2*threads)
			if who >= threads {
				c.goOn()
			} else {
				c.pick(who)
			}
		}
		if c.went == 0 {
			t.Error("it never went on")
		}
		c.rest()
	}
}

func TestWhileOneIsPinnedItGoesOnByOneAtMost(t *testing.T) {
	// However often it is tried, and however many others pin and let go.
	for threads := 1; threads <= api.MostThreads; threads++ {
		for holder := range threads {
			c := newCrowd(t, threads, 1)
			for !c.threads[holder].pinned {
				c.pick(holder)
			}
			was := c.e.M.Peek(epochAt)
			x := uint64(holder)
			var who int
			for range 300 {
				who, x = mixed(x, 2*threads)
				if who >= threads {
					c.goOn()
				} else if who != holder {
					c.pick(who)
				}
			}
			if c.went != 1 || c.e.M.Peek(epochAt) != was+1 {
				t.Fatalf("it went on %d times", c.went)
			}
			// Once its pin is let go, it goes on.
			c.rest()
		}
	}
}

func TestItGoesOnWhileOnePinsEachNewOne(t *testing.T) {
	for threads := 1; threads <= api.MostThreads; threads++ {
		for who := range threads {
			e := filled(t, arena(threads, 1, 17), 0)
			for now := range uint64(20) {
				v := e
				v.Who = who
				p := &pin.In{}
				for !p.Step(v) {
				}
				pins := none(threads)
				pins[who] = now + 1
				wantGone(t, e, now, pins)
			}
		}
	}
}

func TestOneThatPinsTooLate(t *testing.T) {
	// It loaded the epoch, and lays its pin when that went on: it looks once more, and till then the epoch does not go on.
	e := filled(t, arena(2, 1, 17), 4)
	v := e
	v.Who = 1
	p := &pin.In{}
	p.Step(v)
	wantGone(t, e, 4, none(2))
	p.Step(v)
	for range 3 {
		wantGone(t, e, 5, []uint64{0, 5})
	}
	if p.Step(v) || p.Step(v) || !p.Step(v) {
		t.Fatal("it is another epoch")
	}
	wantGone(t, e, 5, []uint64{0, 6})
}

// play plays a crowd by picks below kinds: threads, the epoch, the chunks that are settled, and those that are evacuated.
func (c *crowd) play(pick int) {
	c.t.Helper()
	threads, chunks := len(c.threads), len(c.shut)
	switch {
	case pick < threads:
		c.pick(pick)
	case pick < threads+1:
		c.goOn()
	case pick < threads+1+chunks:
		c.settle(pick - threads - 1)
	case c.shut[pick-threads-1-chunks] == 0:
		// As if it had been opened again, and used.
		i := pick - threads - 1 - chunks
		c.e.M.Store(chunkAt(c.e.C, i), chunk(open, 1, 2, stampOf(wordOf(c.e, i))+1))
		for k := range 2 {
			c.e.M.Store(baseAt(c.e.C, i)+k, 9)
		}
		c.shutChunk(i)
	}
}

func TestNobodyLooksIntoAChunkThatIsFree(t *testing.T) {
	for seed := range uint64(40) {
		threads, chunks := 1+int(seed%4), 1+int(seed/4%3)
		c := newCrowd(t, threads, chunks)
		x := seed
		var pick int
		for range 2500 {
			pick, x = mixed(x, threads+1+2*chunks)
			c.play(pick)
		}
		if c.freed == 0 {
			t.Errorf("%d threads, %d chunks: none is free", threads, chunks)
		}
		c.rest()
	}
}

func TestOneThatLooksIntoAChunkInEachOrder(t *testing.T) {
	// A thread that pins and lets go, the epoch, a chunk that is Quiet from a pick on; each try at the epoch, and each at the chunk, is done at once.
	const length = 8
	freed, kept := 0, 0
	for order := range 1 << (2 * length) {
		c := newCrowd(t, 1, 1)
		for rest, i := order, 0; i < length; i++ {
			switch rest & 3 {
			case 0:
				c.pick(0)
			case 1:
				c.goOn()
				for c.plain != nil {
					c.goOn()
				}
			case 2:
				if c.shut[0] == 0 && stateOf(wordOf(c.e, 0)) == open {
					c.shutChunk(0)
				}
			case 3:
				c.settle(0)
				for c.at >= 0 {
					c.settle(0)
				}
			}
			rest >>= 2
		}
		if c.freed > 0 {
			freed++
		} else if c.threads[0].pinned && c.shut[0] > c.threads[0].when {
			kept++
		}
		c.rest()
	}
	if freed == 0 || kept == 0 {
		t.Error(freed, kept)
	}
}
