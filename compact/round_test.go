package compact_test

import (
	"slices"
	"testing"

	"footlocker/api"
	"footlocker/compact"
	"footlocker/layout"
)

// now is the epoch at which the tests' hand-laid arenas stand.
const now = 9

// layChunk lays a chunk's word, how many of its words live, and in which epoch it was evacuated.
func layChunk(e layout.Env, i int, w uint64, live, since int) {
	e.M.Store(chunkAt(e.C, i), w)
	e.M.Store(liveAt(e.C, i), uint64(live))
	e.M.Store(sinceAt(e.C, i), uint64(since))
}

// filled is the compactor in an arena of which no two words of chunks are the same, so that a word that is changed by mistake, or loaded in the place of another one, is seen. No chunk is the open one of a class.
func filled(t *testing.T, c api.Config) layout.Env {
	t.Helper()
	e := entered(t, c)
	for a := chunkAt(c, 0); a < e.M.Len(); a++ {
		e.M.Store(a, 1<<55+uint64(a)<<2)
	}
	e.M.Store(epochAt, now)
	return e
}

// spot is where in a chunk the k-th object of a size stands.
func spot(e layout.Env, i, k, size int) int {
	return baseAt(e.C, i) + k*rooms[classes[size]]
}

// layObject lays an object that lives: its slot's word, its head, its words.
func layObject(e layout.Env, x thing) {
	e.M.Store(slotAt(e.C, x.slot), x.in(x.state, x.ver))
	e.M.Store(x.addr, x.head(ready))
	for k := range x.size {
		e.M.Store(x.at(k), uint64(x.value(k)))
	}
}

// sparseOne is the compactor in an arena of which chunk 1 is to be evacuated, which has a dead head, an object that was let go, one that lives, and once more one that was let go. Chunk 0 is the open one of its class, chunk 2 is sparse, too, but more of its words live, chunk 3 is free, and chunk 4 was evacuated so long ago that it is to be free.
func sparseOne(t *testing.T, size int, own bool) (layout.Env, thing) {
	t.Helper()
	e := filled(t, arena(4, 5, 80))
	class, room := classes[size], rooms[classes[size]]
	layChunk(e, 0, chunkWord(open, class, 2*room, 20), 2*room, 1)
	layChunk(e, 1, chunkWord(open, class, 4*room, 30), room, 2)
	layChunk(e, 2, chunkWord(open, class, 4*room, 40), 2*room, 3)
	layChunk(e, 3, chunkWord(free, 0, 0, 50), 0, 4)
	layChunk(e, 4, chunkWord(quiet, (class+1)%4, 18, 60), 77, now-1)
	e.M.Store(openAt(class), 1)
	e.M.Store(pinAt(1), now+1)
	x := thing{slot: 1, gen: 3, state: live, ver: 6, size: size, own: own, addr: spot(e, 1, 2, size)}
	layObject(e, x)
	e.M.Store(spot(e, 1, 0, size), x.head(dead))
	e.M.Store(spot(e, 1, 1, size), head(ready, size, 0, 5, own))
	e.M.Store(spot(e, 1, 3, size), head(ready, size, 2, 1, !own))
	e.M.Store(slotAt(e.C, 2), slotWord(retired, 0, 1, 0))
	return e, x
}

// wantSeen asks for the steps that load what is seen of all chunks.
func wantSeen(t *testing.T, e layout.Env, c *compact.Compactor) {
	t.Helper()
	for i := range e.C.Chunks {
		wantLook(t, e, c, chunkAt(e.C, i))
		if !c.Busy() {
			t.Fatal("it is within a round")
		}
		wantLook(t, e, c, liveAt(e.C, i))
	}
	for class := range 4 {
		wantLook(t, e, c, openAt(class))
	}
}

// wantTurned asks for the step by which a chunk is in another state.
func wantTurned(t *testing.T, e layout.Env, c *compact.Compactor, i, state int) {
	t.Helper()
	at := chunkAt(e.C, i)
	wantStep(t, e, c, at, turned(e.M.Peek(at), state))
}

// wantMoved asks for the steps by which an object is moved into the open chunk of its class: where it stands then.
func wantMoved(t *testing.T, e layout.Env, c *compact.Compactor, x thing) thing {
	t.Helper()
	class := classes[x.size]
	wantLook(t, e, c, x.addr)
	wantLook(t, e, c, slotAt(e.C, x.slot))
	wantLook(t, e, c, openAt(class))
	into := int(e.M.Peek(openAt(class))) - 1
	at := chunkAt(e.C, into)
	wantLook(t, e, c, at)
	w := e.M.Peek(at)
	y := x
	y.addr, y.ver = baseAt(e.C, into)+usedOf(w), x.ver+1
	wantStep(t, e, c, at, chunkWord(open, class, usedOf(w)+x.room(), stampOf(w)))
	wantStep(t, e, c, y.addr, x.head(pending))
	wantStep(t, e, c, slotAt(e.C, x.slot), x.in(moving, x.ver))
	for k := range x.size {
		wantLook(t, e, c, x.at(k))
		wantStep(t, e, c, x.at(k), frozen(x.value(k), x.ver))
		wantStep(t, e, c, y.at(k), uint64(x.value(k)))
	}
	wantStep(t, e, c, slotAt(e.C, x.slot), y.in(live, y.ver))
	wantStep(t, e, c, y.addr, x.head(ready))
	wantStep(t, e, c, liveAt(e.C, into), e.M.Peek(liveAt(e.C, into))+uint64(x.room()))
	from := liveAt(e.C, chunkOf(e.C, x.addr))
	wantStep(t, e, c, from, e.M.Peek(from)-uint64(x.room()))
	return y
}

// wantQuiet asks for the steps by which a chunk that is empty is Quiet.
func wantQuiet(t *testing.T, e layout.Env, c *compact.Compactor, i int) {
	t.Helper()
	wantLook(t, e, c, epochAt)
	wantStep(t, e, c, sinceAt(e.C, i), e.M.Peek(epochAt))
	wantTurned(t, e, c, i, quiet)
}

// wantGoneOn asks for the steps by which the epoch goes on.
func wantGoneOn(t *testing.T, e layout.Env, c *compact.Compactor) {
	t.Helper()
	wantLook(t, e, c, epochAt)
	for who := range e.C.Threads {
		wantLook(t, e, c, pinAt(who))
	}
	wantStep(t, e, c, epochAt, e.M.Peek(epochAt)+1)
}

// wantSettled asks for the steps by which each chunk settles, in turn.
func wantSettled(t *testing.T, e layout.Env, c *compact.Compactor) {
	t.Helper()
	for i := range e.C.Chunks {
		if !c.Busy() {
			t.Fatal("it is within a round")
		}
		w := e.M.Peek(chunkAt(e.C, i))
		wantLook(t, e, c, chunkAt(e.C, i))
		if kindOf(w) != quiet {
			continue
		}
		wantLook(t, e, c, sinceAt(e.C, i))
		wantLook(t, e, c, epochAt)
		if e.M.Peek(epochAt) < e.M.Peek(sinceAt(e.C, i))+grace {
			continue
		}
		for k := range usedOf(w) {
			wantStep(t, e, c, baseAt(e.C, i)+k, 0)
		}
		wantStep(t, e, c, liveAt(e.C, i), 0)
		wantStep(t, e, c, chunkAt(e.C, i), chunkWord(free, 0, 0, stampOf(w)+1))
	}
	if c.Busy() {
		t.Fatal("the round is over")
	}
}

func TestARoundStepByStep(t *testing.T) {
	for size := 1; size <= api.MostSize; size++ {
		for _, who := range []int{api.Compactor, 0, 2, 3, 77} {
			e, x := sparseOne(t, size, who == 2)
			e.Who = who
			c := compact.New()
			wantNoStep(t, e, func() {
				if c.Busy() || c.Idle() != 0 {
					t.Error("it did nothing yet")
				}
				wantWork(t, c, 0, 0, 0, 0, 0)
			})
			wantSeen(t, e, c)
			wantTurned(t, e, c, 1, evac)
			wantLook(t, e, c, spot(e, 1, 0, size))
			wantLook(t, e, c, spot(e, 1, 1, size))
			wantLook(t, e, c, slotAt(e.C, 0))
			wantWork(t, c, 0, 0, 0, 0, 0)
			y := wantMoved(t, e, c, x)
			wantWork(t, c, 0, 0, 0, 1, 0)
			wantLook(t, e, c, spot(e, 1, 3, size))
			wantLook(t, e, c, slotAt(e.C, 2))
			wantQuiet(t, e, c, 1)
			wantWork(t, c, 1, 0, 0, 1, 0)
			wantGoneOn(t, e, c)
			wantWork(t, c, 1, 0, 0, 1, 0)
			wantSettled(t, e, c)
			wantWork(t, c, 1, 0, 1, 1, 1)
			if y.addr != spot(e, 0, 2, size) || c.Idle() != 0 {
				t.Fatalf("it stands at %d; idle %d", y.addr, c.Idle())
			}
			wantThere(t, e, y)
		}
	}
}

func TestRoundsStepByStep(t *testing.T) {
	// Two objects, of unlike sizes of one class, and the rounds behind that.
	for size := 9; size <= api.MostSize; size++ {
		e := filled(t, arena(3, 2, 85))
		layChunk(e, 0, chunkWord(open, 3, 68, 1), 34, 0)
		layChunk(e, 1, chunkWord(open, 3, 17, 1), 17, 0)
		e.M.Store(openAt(3), 2)
		a := thing{slot: 0, gen: 1, state: live, size: size, addr: spot(e, 0, 1, size)}
		b := thing{slot: 2, gen: 9, state: live, size: 25 - size, addr: spot(e, 0, 3, size)}
		layObject(e, a)
		layObject(e, b)
		e.M.Store(spot(e, 0, 0, size), a.head(dead))
		e.M.Store(spot(e, 0, 2, size), b.head(dead))
		c := compact.New()
		wantSeen(t, e, c)
		wantTurned(t, e, c, 0, evac)
		wantLook(t, e, c, spot(e, 0, 0, size))
		a = wantMoved(t, e, c, a)
		wantLook(t, e, c, spot(e, 0, 2, size))
		b = wantMoved(t, e, c, b)
		wantQuiet(t, e, c, 0)
		wantGoneOn(t, e, c)
		wantSettled(t, e, c)
		wantWork(t, c, 1, 0, 0, 2, 1)
		wantThere(t, e, a, b)
		// The next round frees it: the epoch is two more then.
		wantSeen(t, e, c)
		wantGoneOn(t, e, c)
		wantSettled(t, e, c)
		wantWork(t, c, 1, 0, 1, 2, 2)
		// And in the one behind that nothing is done.
		for n := 1; n <= 3; n++ {
			wantSeen(t, e, c)
			wantGoneOn(t, e, c)
			if c.Idle() != n-1 {
				t.Fatalf("within round %d it is idle %d", n+2, c.Idle())
			}
			wantSettled(t, e, c)
			wantWork(t, c, 1, 0, 1, 2, 2+n)
			if c.Idle() != n {
				t.Fatalf("behind round %d it is idle %d", n+2, c.Idle())
			}
		}
	}
}

func TestAChunkWhoseWordIsAnotherOneIsLetBe(t *testing.T) {
	for _, w := range []uint64{
		chunkWord(open, 0, 15, 30), chunkWord(open, 0, 12, 31), chunkWord(open, 1, 12, 30), chunkWord(free, 0, 12, 30),
		chunkWord(evac, 0, 12, 30), chunkWord(evac, 0, 12, 31), chunkWord(quiet, 0, 12, 30), 0, 1<<64 - 1,
	} {
		for ahead := range 14 {
			e, _ := sparseOne(t, 2, false)
			c := compact.New()
			// Of chunk 1 the word is loaded at the third step.
			for range 3 + ahead%12 {
				c.Step(e)
			}
			e.M.Store(chunkAt(e.C, 1), w)
			for range 11 - ahead%12 {
				c.Step(e)
			}
			wantLook(t, e, c, chunkAt(e.C, 1))
			wantGoneOn(t, e, c)
			wantWork(t, c, 0, 0, 0, 0, 0)
			if got := e.M.Peek(chunkAt(e.C, 1)); got != w {
				t.Fatalf("it is %#x, not %#x", got, w)
			}
		}
	}
}

func TestTheWordIsTheOneThatWasSeen(t *testing.T) {
	// It was another one when it was seen: nothing of what was there ahead of that is asked for.
	e, x := sparseOne(t, 4, false)
	c := compact.New()
	wantLook(t, e, c, chunkAt(e.C, 0))
	wantLook(t, e, c, liveAt(e.C, 0))
	e.M.Store(chunkAt(e.C, 1), chunkWord(open, 1, 15, 99))
	wantLook(t, e, c, chunkAt(e.C, 1))
	e.M.Store(liveAt(e.C, 1), 0)
	wantLook(t, e, c, liveAt(e.C, 1))
	e.M.Store(liveAt(e.C, 1), 15)
	for range 6 + 4 {
		c.Step(e)
	}
	wantTurned(t, e, c, 1, evac)
	wantLook(t, e, c, spot(e, 1, 0, 4))
	wantLook(t, e, c, spot(e, 1, 1, 4))
	wantLook(t, e, c, slotAt(e.C, 0))
	wantMoved(t, e, c, x)
	// Of three objects there is no fourth one.
	wantQuiet(t, e, c, 1)
}

func TestNoneIsChosen(t *testing.T) {
	// Chunks that are free, Evac, Quiet, dense, without words, or the open ones of their classes.
	e := filled(t, arena(4, 9, 40))
	layChunk(e, 0, chunkWord(free, 0, 0, 3), 0, 0)
	layChunk(e, 1, chunkWord(evac, 1, 20, 3), 5, 0)
	layChunk(e, 2, chunkWord(quiet, 2, 27, 3), 0, now)
	layChunk(e, 3, chunkWord(open, 0, 30, 3), 18, 0)
	layChunk(e, 4, chunkWord(open, 0, 0, 3), 0, 0)
	for class := range 4 {
		layChunk(e, 5+class, chunkWord(open, class, rooms[class], 3), 0, 0)
		e.M.Store(openAt(class), uint64(6+class))
	}
	c := compact.New()
	l := chunkWords(e)
	for n := 1; n <= 2; n++ {
		wantSeen(t, e, c)
		wantGoneOn(t, e, c)
		if n == 2 {
			l[2] = chunkWord(free, 0, 0, 4)
		}
		wantSettled(t, e, c)
		wantWork(t, c, 0, 0, n/2, 0, n)
		if !slices.Equal(chunkWords(e), l) {
			t.Fatalf("the chunks are %#x, not %#x", chunkWords(e), l)
		}
	}
}

func TestTheChosenOne(t *testing.T) {
	// Of those that may be, the one of which the fewest words live, the first of several: in each order.
	for order := range 4 * 4 * 4 * 4 {
		e := filled(t, arena(1, 4, 40))
		rest, least, chosen := order, 1<<30, -1
		for i := range 4 {
			n := rest % 4 * 9
			rest /= 4
			layChunk(e, i, chunkWord(open, 2, 36, 5), n, 0)
			// 27 of 36 words are dense enough.
			if n < 27 && n < least {
				least, chosen = n, i
			}
		}
		c := compact.New()
		wantSeen(t, e, c)
		if chosen < 0 {
			wantGoneOn(t, e, c)
			continue
		}
		wantTurned(t, e, c, chosen, evac)
	}
}

func TestTheOpenOneOfItsClass(t *testing.T) {
	// A chunk that is said to be the open one of another class than its own is not: it was free meanwhile.
	for class := range 4 {
		for said := range 4 {
			for i := range 3 {
				e := filled(t, arena(1, 3, 40))
				for k := range 3 {
					layChunk(e, k, chunkWord(free, 0, 0, 1), 0, 0)
				}
				layChunk(e, i, chunkWord(open, class, rooms[class], 5), 0, 0)
				e.M.Store(openAt(said), uint64(i+1))
				c := compact.New()
				wantSeen(t, e, c)
				if said == class {
					wantGoneOn(t, e, c)
				} else {
					wantTurned(t, e, c, i, evac)
				}
			}
		}
	}
}

func TestStampsThatAreTheGreatest(t *testing.T) {
	// One more than the greatest is the greatest one.
	for less := range 4 {
		for _, leaves := range []bool{false, true} {
			e := filled(t, arena(1, 2, 40))
			w := chunkWord(open, 1, 5, api.MostStamp-less)
			layChunk(e, 0, w, 0, 0)
			layChunk(e, 1, chunkWord(free, 0, 0, 1), 0, 0)
			e.M.Store(baseAt(e.C, 0), head(dead, 3, 0, 1, false))
			if leaves {
				e.M.Store(baseAt(e.C, 0), 0)
			}
			c := compact.New()
			wantSeen(t, e, c)
			wantStep(t, e, c, chunkAt(e.C, 0), chunkWord(evac, 1, 5, min(api.MostStamp, api.MostStamp-less+1)))
			wantLook(t, e, c, baseAt(e.C, 0))
			if leaves {
				wantStep(t, e, c, chunkAt(e.C, 0), chunkWord(open, 1, 5, min(api.MostStamp, api.MostStamp-less+2)))
				continue
			}
			wantLook(t, e, c, epochAt)
			wantStep(t, e, c, sinceAt(e.C, 0), now)
			wantStep(t, e, c, chunkAt(e.C, 0), chunkWord(quiet, 1, 5, min(api.MostStamp, api.MostStamp-less+2)))
		}
	}
}

func TestTheEpochThatIsLaidIsTheOneThatWasLoaded(t *testing.T) {
	// Whatever it is by then, and ahead of that: it is asked for when all objects are gone through.
	for _, was := range []uint64{0, 1, 7, 1 << 40, 1<<64 - 1} {
		e := filled(t, arena(1, 2, 40))
		layChunk(e, 0, chunkWord(open, 1, 5, 4), 0, 0)
		layChunk(e, 1, chunkWord(free, 0, 0, 1), 0, 0)
		e.M.Store(baseAt(e.C, 0), head(dead, 3, 0, 1, false))
		c := compact.New()
		wantSeen(t, e, c)
		wantTurned(t, e, c, 0, evac)
		wantLook(t, e, c, baseAt(e.C, 0))
		e.M.Store(epochAt, was)
		wantLook(t, e, c, epochAt)
		e.M.Store(epochAt, 33)
		wantStep(t, e, c, sinceAt(e.C, 0), was)
		wantTurned(t, e, c, 0, quiet)
		// That it goes on is asked anew.
		wantGoneOn(t, e, c)
	}
}

func TestAnEpochThatDoesNotGoOn(t *testing.T) {
	// Behind the pin that ends it, chunks settle all the same.
	for who := range 3 {
		for _, pin := range []uint64{1, now, now + 2, 1 << 50} {
			e, _ := sparseOne(t, 2, false)
			layChunk(e, 1, chunkWord(free, 0, 0, 1), 0, 0)
			layChunk(e, 2, chunkWord(free, 0, 0, 1), 0, 0)
			layChunk(e, 4, chunkWord(quiet, 1, 20, 60), 7, now-2)
			e.M.Store(pinAt(who), pin)
			c := compact.New()
			wantSeen(t, e, c)
			wantLook(t, e, c, epochAt)
			for k := range who + 1 {
				wantLook(t, e, c, pinAt(k))
			}
			wantSettled(t, e, c)
			wantWork(t, c, 0, 0, 1, 0, 1)
			if e.M.Peek(epochAt) != now {
				t.Fatal("the epoch went on")
			}
		}
	}
}
