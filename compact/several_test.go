package compact_test

import (
	"slices"
	"testing"

	"footlocker/api"
)

// asked is something that a thread begins to do to an object.
type asked func(c *crowd, who int, x thing)

// These are such things; a value that is laid tells who did it.
func reads(c *crowd, who int, x thing)     { c.access(who, x.read(0), x.own) }
func writes(c *crowd, who int, x thing)    { c.access(who, x.write(0, 10+who), x.own) }
func exchanges(c *crowd, who int, x thing) { c.access(who, x.exchange(0, 50, 20+who), x.own) }
func lays(c *crowd, who int, x thing)      { c.access(who, x.write(x.size-1, 30+who), x.own) }
func looks(c *crowd, who int, x thing)     { c.access(who, x.read(x.size-1), x.own) }
func others(c *crowd, who int, x thing)    { c.access(who, x.exchange(0, 99, 40+who), x.own) }
func goes(c *crowd, who int, x thing)      { c.drop(who, x) }
func makes(c *crowd, who int, x thing)     { c.alloc(who, x.size, x.own) }
func makesAny(c *crowd, who int, x thing)  { c.alloc(who, 1+who*5, x.own) }

// few is an arena of three threads, with a chunk of five objects of a size, of which one lives, or two, that is not the open one of its class: those, the first one of which is to be moved.
func few(t *testing.T, size int, two bool) (*crowd, []thing) {
	t.Helper()
	room := rooms[classes[size]]
	c := newCrowd(t, arena(8, 4, max(api.LeastChunk, 5*room)))
	var l []thing
	for range c.e.C.Words/room + 1 {
		l = append(l, c.make(0, size, false, 50))
	}
	last := len(l) - 1
	if two {
		c.letGo(0, l[2:last]...)
		return c, l[:2]
	}
	c.letGo(0, l[1:last]...)
	return c, l[:1]
}

func TestOneAtEachStep(t *testing.T) {
	t.Parallel()
	// Ahead of each step of the compactor a thread does something, whole.
	for _, one := range []asked{reads, writes, exchanges, others, lays, looks, goes, makes, makesAny} {
		for _, size := range []int{1, 2, 4} {
			for ahead := range 110 {
				c, l := few(t, size, ahead%2 == 0)
				c.compacts(ahead)
				one(c, 1, l[0])
				c.run(1)
				c.rest()
			}
		}
	}
}

func TestOneWhoIsInterruptedAtEachStep(t *testing.T) {
	t.Parallel()
	// A thread begins something ahead of some step, does some steps of it, and the rest some steps of the compactor later.
	for _, one := range []asked{reads, writes, exchanges, others, goes, makes} {
		for half := range 14 {
			for ahead := range 60 {
				c, l := few(t, 2, ahead%3 == 0)
				c.compacts(ahead)
				one(c, 1, l[0])
				c.picked(1, half)
				c.compacts(ahead*half%97 + 1)
				c.rest()
			}
		}
	}
}

func TestTwoAtEachStep(t *testing.T) {
	t.Parallel()
	for _, one := range []asked{reads, writes, goes, makes} {
		for _, two := range []asked{writes, lays, exchanges, goes} {
			for seed := range uint64(60) {
				c, l := few(t, 1+int(seed%3), seed%2 == 0)
				c.compacts(int(seed))
				one(c, 0, l[0])
				two(c, 1, l[0])
				lays(c, 2, l[len(l)-1])
				x := seed
				for range 150 {
					var who int
					if who, x = mixed(x, 5); who >= 3 {
						c.compact()
					} else {
						c.picked(who, 1)
					}
				}
				c.rest()
			}
		}
	}
}

func TestAWriterAtTheWorstMomentEachTime(t *testing.T) {
	// Whoever writes does so when the last word is frozen: the object is kept, and the chunk left, with what was laid last; then it is moved.
	for tries := 1; tries <= 16; tries++ {
		c, l := few(t, 3, false)
		x := l[0]
		c.e.C.Tries = tries
		n := 0
		for c.c.Work().Left == 0 {
			w := c.e.M.Peek(slotAt(c.e.C, x.slot))
			if stateOf(w) == moving && c.e.M.Peek(found(c.e, x.slot).at(2)) == frozen(valueOf(c.e.M.Peek(found(c.e, x.slot).at(2))), verOf(w)) {
				c.access(1, x.write(2, 100+n), false)
				c.run(1)
				n++
			}
			c.compact()
		}
		wantWork(t, c.c, 0, 1, 0, 0, 0)
		if n != tries {
			t.Fatalf("%d writes, not %d", n, tries)
		}
		if d := c.read(1, x, 2); d.Value != 99+n {
			t.Fatal(d)
		}
		c.rest()
		if d := c.read(1, x, 2); d.Value != 99+n || chunkOf(c.e.C, found(c.e, x.slot).addr) == 0 {
			t.Fatal(d)
		}
	}
}

// something lets a thread begin something, most often to a few words of the objects that were made last.
func (c *crowd) something(who int, x uint64, full int) uint64 {
	var what, which, k, v, size int
	what, x = mixed(x, 20)
	which, x = mixed(x, full)
	size, x = mixed(x, api.MostSize)
	k, x = mixed(x, 3)
	v, x = mixed(x, 3)
	if len(c.made) == 0 {
		c.alloc(who, 1+size, x>>40&1 == 0)
		return x
	}
	o := c.made[max(0, len(c.made)-1-which)]
	switch {
	case what < 5:
		c.alloc(who, 1+size, x>>40&1 == 0)
	case what < 10:
		c.drop(who, o)
	case what < 13:
		c.access(who, o.read(k), o.own)
	case what < 17:
		c.access(who, o.write(k, v), o.own)
	default:
		c.access(who, o.exchange(k, v, (v+1)%3), o.own)
	}
	return x
}

func TestManyWhoeverIsPicked(t *testing.T) {
	t.Parallel()
	var all api.Work
	vain := 0
	for seed := range uint64(250) {
		a := arena(2+int(seed*5%23), 3+int(seed%14), api.LeastChunk+int(seed*7%90))
		a.Threads = 1 + int(seed%api.MostThreads)
		a.Gens = 1 + int(seed*seed%99)
		a.Tries = 1 + int(seed%4)
		a.Sparse = []int{600, 1000, 800, 0, 400}[seed%5]
		c := newCrowd(t, a)
		x := seed
		for range 4000 {
			var who int
			// The compactor is picked as often as a thread, or as all threads together.
			if who, x = mixed(x, a.Threads+1+int(seed%3)*a.Threads/2); who >= a.Threads {
				c.compact()
				continue
			}
			if !c.busy(who) {
				x = c.something(who, x, 2+int(seed%17))
			}
			c.pick(who)
		}
		c.rest()
		w := c.c.Work()
		all.Evacuated += w.Evacuated
		all.Left += w.Left
		all.Freed += w.Freed
		all.Moved += w.Moved
		vain += c.p.vain
	}
	if all.Evacuated < 500 || all.Left < 200 || all.Freed != all.Evacuated || all.Moved < 400 {
		t.Errorf("%+v, and %d were let be", all, vain)
	}
}

func TestThreadsThatArePinnedLong(t *testing.T) {
	t.Parallel()
	// Of some threads just a step is done now and then: chunks wait for them, and others go on.
	freed := 0
	for seed := range uint64(60) {
		a := arena(20, 6+int(seed%9), 20+int(seed*3%60))
		a.Threads = 4
		c := newCrowd(t, a)
		x := seed
		for n := range 5000 {
			var who int
			who, x = mixed(x, 7)
			switch {
			case who >= 4:
				c.compact()
				continue
			case who == 0 && n%40 != 0, who == 1 && n%15 != 0:
				continue
			}
			if !c.busy(who) {
				x = c.something(who, x, 9)
			}
			c.pick(who)
		}
		freed += c.c.Work().Freed
		c.rest()
	}
	if freed < 30 {
		t.Errorf("%d chunks were freed", freed)
	}
}

func TestNoneIsLost(t *testing.T) {
	t.Parallel()
	// Each adds 1 to a word of one object, by an exchange of what it read, as often as it must till it is told that it did, while a thread makes objects beside it, and lets them go, so that it is moved on and on.
	moved := 0
	for seed := range uint64(60) {
		const adders, each = 3, 8
		a := arena(12, 8, 30)
		a.Threads = adders + 1
		a.Gens = api.MostGen
		a.Sparse = 1000
		c := newCrowd(t, a)
		o := c.make(0, 1+int(seed%2), seed%2 == 0, 0)
		var is, added [adders]int
		var exchanging [adders]bool
		var beside []thing
		x := seed
		for sum := 0; sum < adders*each || len(c.told) < 300; {
			var who int
			who, x = mixed(x, 2*adders+2)
			if who > adders {
				c.compact()
				continue
			}
			if who == adders {
				beside = c.beside(who, beside)
				continue
			}
			if added[who] == each {
				continue
			}
			if !c.busy(who) {
				if exchanging[who] {
					c.access(who, o.exchange(0, is[who], is[who]+1), o.own)
				} else {
					c.access(who, o.read(0), o.own)
				}
			}
			c.pick(who)
			if c.busy(who) {
				continue
			}
			d := c.told[len(c.told)-1].done
			if exchanging[who] && d.E == api.OK {
				added[who]++
				sum++
			}
			is[who] = d.Value
			exchanging[who] = !exchanging[who] || d.E == api.ErrOther
		}
		c.rest()
		if d := c.read(0, o, 0); d.Value != adders*each {
			t.Fatalf("it is %d", d.Value)
		}
		moved += found(c.e, o.slot).ver
	}
	if moved < 60 {
		t.Errorf("it was moved %d times", moved)
	}
}

// beside lets a thread make objects of two words, and, when there are nine, let the first one go, and so on: those that live by it.
func (c *crowd) beside(who int, l []thing) []thing {
	c.t.Helper()
	n := len(c.made)
	if !c.busy(who) {
		if len(l) < 9 {
			c.alloc(who, 2, true)
		} else {
			c.drop(who, l[0])
			l = l[1:]
		}
	}
	c.pick(who)
	if len(c.made) > n {
		l = append(l, c.made[n])
	}
	return l
}

func TestOneThreadIsToldTheSameWithoutACompactor(t *testing.T) {
	t.Parallel()
	// There is room enough without one.
	for seed := range uint64(60) {
		a := arena(20, 60, 120)
		a.Threads = 1
		a.Sparse = 900
		play := func(each int) ([]api.Done, api.Work) {
			c := newCrowd(t, a)
			x := seed
			for range 120 {
				x = c.something(0, x, 6)
				for c.busy(0) {
					c.pick(0)
					c.compacts(each)
				}
			}
			c.rest()
			var l []api.Done
			for _, y := range c.told {
				y.done.Stamp = 0
				l = append(l, y.done)
			}
			return l, c.c.Work()
		}
		alone, _ := play(0)
		for each := 1; each <= 8; each += 1 + int(seed%4) {
			with, w := play(each)
			if !slices.Equal(with, alone) {
				t.Fatalf("%v is told, and alone %v", with, alone)
			}
			if w.Evacuated == 0 {
				t.Fatalf("%+v", w)
			}
		}
	}
}

func TestACompactorThatIsNeverPickedAgainStopsNobody(t *testing.T) {
	t.Parallel()
	for size := 1; size <= 4; size++ {
		for half := range 130 {
			c, l := few(t, size, true)
			c.compacts(half)
			for who, do := range []asked{writes, lays, looks} {
				do(c, who, l[0])
				if d := c.run(who); d.E != api.OK {
					t.Fatal(d)
				}
			}
			if d := c.read(2, l[0], size-1); d.E != api.OK || d.Value != 31 {
				t.Fatalf("behind %d steps: %v", half, d)
			}
			x := c.make(1, size, false, 7)
			c.letGo(2, l[0], x)
			if d := c.read(0, l[1], size-1); d.E != api.OK || d.Value != 49+size {
				t.Fatalf("behind %d steps: %v", half, d)
			}
			c.leave()
		}
	}
}

func TestAThreadThatIsNeverPickedAgainStopsNobody(t *testing.T) {
	t.Parallel()
	// Wherever that is: rounds end, and others' calls do; what lived there has its words.
	for _, one := range []asked{reads, writes, exchanges, makes, makesAny} {
		for half := range 14 {
			for ahead := range 50 {
				c, l := few(t, 2, true)
				c.compacts(ahead)
				one(c, 0, l[0])
				c.picked(0, half)
				was := c.c.Work().Rounds
				for most := 4000; c.c.Work().Rounds < was+6; most-- {
					if most < 0 {
						t.Fatal("rounds do not end")
					}
					c.compact()
				}
				x := c.make(1, 2, false, 60)
				if d := c.read(2, l[1], 1); d.Value != 51 {
					t.Fatal(d)
				}
				if d := c.read(2, x, 1); d.Value != 61 {
					t.Fatal(d)
				}
				c.letGo(1, l[1], x)
				if c.busy(0) {
					c.run(0)
				}
				c.rest()
			}
		}
	}
}

func TestSomeCallEndsWhoeverIsPicked(t *testing.T) {
	t.Parallel()
	for seed := range uint64(20) {
		a := arena(12, 20, 60)
		a.Threads = 4
		a.Gens = api.MostGen
		c := newCrowd(t, a)
		x := seed
		for range 40 {
			was, over := len(c.told), c.c.Work().Rounds
			for range 5 * 400 {
				var who int
				if who, x = mixed(x, 5); who == 4 {
					c.compact()
					continue
				}
				if !c.busy(who) {
					x = c.something(who, x, 9)
				}
				c.pick(who)
			}
			if len(c.told) == was || c.c.Work().Rounds == over {
				t.Fatalf("%d calls, %d rounds", len(c.told)-was, c.c.Work().Rounds-over)
			}
		}
		c.rest()
	}
}

func TestAllInTurn(t *testing.T) {
	t.Parallel()
	// Each thread does a step, then the compactor one, until all calls are done; then some rounds more, and nothing is left to be done.
	for seed := range uint64(40) {
		a := arena(20, 6+int(seed%11), 20+int(seed*5%80))
		a.Threads = 1 + int(seed%api.MostThreads)
		c := newCrowd(t, a)
		calls := make([]int, a.Threads)
		x := seed
		for on := true; on; {
			on = false
			for who := range a.Threads {
				if !c.busy(who) && calls[who] < 40 {
					calls[who]++
					x = c.something(who, x, 12)
				}
				if c.busy(who) {
					on = true
					c.pick(who)
				}
			}
			c.compact()
		}
		if len(c.told) != 40*a.Threads {
			t.Fatalf("%d calls are done", len(c.told))
		}
		c.rest()
	}
}
