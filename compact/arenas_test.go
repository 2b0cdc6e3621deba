package compact_test

import (
	"slices"
	"testing"

	"footlocker/alloc"
	"footlocker/api"
	"footlocker/compact"
	"footlocker/layout"
	"footlocker/pin"
)

// settled follows the teller till nothing was done in a round: the compactor.
func settled(t *testing.T, e layout.Env) *compact.Compactor {
	t.Helper()
	c, p, m := compact.New(), newTeller(), twin(t, e.M)
	defer p.stop()
	for most := 10 + 6*e.C.Chunks; p.idle == 0; {
		if was := p.work.Rounds; most < was {
			t.Fatalf("it does not rest: %v", p.work)
		}
		follow(t, e, c, p, m)
	}
	if !slices.Equal(words(e.M), words(m)) {
		t.Fatal("the words are others")
	}
	return c
}

// population makes objects of mixed sizes, as many as find room, or fewer: all of them.
func population(t *testing.T, e layout.Env, x uint64, most int) []thing {
	t.Helper()
	var l []thing
	for range most {
		var size int
		size, x = mixed(x, api.MostSize)
		a := alloc.New(1+size, size%3 == 0)
		run(t, by(e, 0), a)
		if a.Done().E != api.OK {
			break
		}
		y := found(e, int(a.Done().Handle&(1<<16-1)))
		for k := range y.size {
			laid(t, e, y, k, y.value(k))
		}
		l = append(l, y)
	}
	return l
}

// split is which of them are let go, so many of 8, and which stay.
func split(l []thing, x uint64, of8 int) (gone, stay []thing) {
	for _, y := range l {
		var n int
		if n, x = mixed(x, 8); n < of8 {
			gone = append(gone, y)
		} else {
			stay = append(stay, y)
		}
	}
	return gone, stay
}

// someArena is an arena of some kind.
func someArena(n int) api.Config {
	c := arena(1+n*7%60, 1+n*5%23, api.LeastChunk+n*n*11%(api.MostChunk-api.LeastChunk+1))
	c.Threads = 1 + n%api.MostThreads
	c.Sparse = []int{600, 1000, 0, 300, 999, 1, 750}[n%7]
	c.Tries = 1 + n%16
	return c
}

func TestArenasOfAllSizes(t *testing.T) {
	t.Parallel()
	evacuated, moved, crowded := 0, 0, 0
	for n := range 400 {
		e := entered(t, someArena(n))
		gone, stay := split(population(t, e, uint64(n), 10+n%50), uint64(n)+7, n%9)
		letGo(t, e, gone...)
		c := settled(t, e)
		wantRest(t, e)
		wantThere(t, e, stay...)
		wantGone(t, e, gone...)
		evacuated += c.Work().Evacuated
		moved += c.Work().Moved
		if c.Work().Freed != c.Work().Evacuated {
			t.Fatalf("%+v", c.Work())
		}
		if freeOnes(e) == 0 {
			crowded++
		}
	}
	if evacuated < 300 || moved < 300 || crowded < 20 {
		t.Errorf("%d chunks were evacuated, %d objects moved; %d arenas have no free chunk", evacuated, moved, crowded)
	}
}

func TestOnAndOn(t *testing.T) {
	t.Parallel()
	// Objects are made and let go, and between that are some rounds, whether all is at rest by then or not; what was freed is used again.
	most := 0
	for n := range 60 {
		a := someArena(n * 3)
		a.Chunks, a.Words = 3+n%9, 40+n*5%100
		e := entered(t, a)
		c := compact.New()
		var stay []thing
		x := uint64(n)
		for range 25 {
			var of8, some int
			of8, x = mixed(x, 9)
			some, x = mixed(x, 12)
			gone, rest := split(append(stay, population(t, e, x, some)...), x, of8)
			letGo(t, e, gone...)
			rounds(t, e, c, some%4)
			wantCounted(t, e)
			wantThere(t, e, rest...)
			wantGone(t, e, gone...)
			stay = rest
		}
		toRest(t, e, c)
		wantRest(t, e)
		wantThere(t, e, stay...)
		most = max(most, c.Work().Freed)
	}
	if most < 10 {
		t.Errorf("at most %d chunks were freed", most)
	}
}

func TestAllWereLetGo(t *testing.T) {
	t.Parallel()
	for n := range 200 {
		e := entered(t, someArena(n))
		l := population(t, e, uint64(n), 60)
		letGo(t, e, l...)
		var used [4]int
		for i, w := range chunkWords(e) {
			if kindOf(w) == open && !isOpen(e, i) {
				used[classOf(w)]++
			}
		}
		c := settled(t, e)
		opened := 0
		for i, w := range chunkWords(e) {
			if isOpen(e, i) {
				opened++
				continue
			}
			if kindOf(w) != free {
				t.Fatalf("chunk %d is %#x", i, w)
			}
			for k := range e.C.Words {
				if v := e.M.Peek(baseAt(e.C, i) + k); v != 0 {
					t.Fatalf("word %d of chunk %d is %#x", k, i, v)
				}
			}
		}
		all := used[0] + used[1] + used[2] + used[3]
		wantWork(t, c, all, 0, all, 0, -1)
		if opened > api.Classes {
			t.Fatalf("%d chunks are open", opened)
		}
		// Each round but the last ones evacuates a chunk.
		if all > 0 && c.Work().Rounds != all+2 {
			t.Fatalf("%d chunks took %d rounds", all, c.Work().Rounds)
		}
		wantGone(t, e, l...)
		wantRest(t, e)
	}
}

func TestNoneWereLetGo(t *testing.T) {
	t.Parallel()
	// No chunk is sparse: nothing is moved, and no chunk's word is another one, however many rounds pass.
	for n := range 60 {
		e := entered(t, someArena(n))
		l := population(t, e, uint64(n), 60)
		wantStill(t, e, 40)
		wantThere(t, e, l...)
	}
}

// wantStill asks that nothing is done in so many rounds, but that the epoch goes on.
func wantStill(t *testing.T, e layout.Env, n int) {
	t.Helper()
	c := compact.New()
	w := words(e.M)
	for k := 1; k <= n; k++ {
		round(t, e, c)
		w[epochAt]++
		if !slices.Equal(words(e.M), w) {
			t.Fatalf("in round %d the words are others", k)
		}
		wantWork(t, c, 0, 0, 0, 0, k)
		if c.Idle() != k {
			t.Fatalf("behind round %d it is idle %d", k, c.Idle())
		}
	}
}

func TestChunksThatAreJustDenseEnough(t *testing.T) {
	// As many live as Sparse asks for: nothing is done. One less: the chunk is evacuated.
	for class := range 4 {
		size := rooms[class] - 1
		const each = 10
		for live := 1; live <= each; live++ {
			for _, more := range []int{0, 1} {
				a := arena(40, 3, each*17)
				a.Sparse = 100*live + more
				if a.Sparse > 1000 {
					continue
				}
				// A chunk has room for more of the lesser classes: it is of that many words.
				a.Words = max(api.LeastChunk, each*rooms[class])
				e := entered(t, a)
				var l []thing
				for range a.Words/rooms[class] + 1 {
					l = append(l, made(t, e, size, false))
				}
				letGo(t, e, l[live:a.Words/rooms[class]]...)
				if more == 0 {
					wantStill(t, e, 7)
					continue
				}
				c := compact.New()
				rounds(t, e, c, 3)
				wantWork(t, c, 1, 0, 1, live, 3)
				wantThere(t, e, l[:live]...)
			}
		}
	}
}

func TestSparseIsNought(t *testing.T) {
	// Just chunks of which nothing lives are evacuated.
	a := arena(40, 5, 30)
	a.Sparse = 0
	e := entered(t, a)
	var l []thing
	for range 25 {
		l = append(l, made(t, e, 2, false))
	}
	letGo(t, e, l[1:20]...)
	c := compact.New()
	rounds(t, e, c, 6)
	wantWork(t, c, 1, 0, 1, 0, 6)
	wantThere(t, e, l[0], l[20])
	letGo(t, e, l[0])
	rounds(t, e, c, 6)
	wantWork(t, c, 2, 0, 2, 0, 12)
}

func TestOneOfNineLives(t *testing.T) {
	// The handle is the same, the object stands elsewhere.
	for lives := range 9 {
		e := entered(t, arena(12, 4, 27))
		var l []thing
		for range 10 {
			l = append(l, made(t, e, 2, false))
		}
		x := l[lives]
		letGo(t, e, slices.Delete(slices.Clone(l[:9]), lives, lives+1)...)
		c := compact.New()
		rounds(t, e, c, 2)
		wantWork(t, c, 1, 0, 1, 1, 2)
		y := found(e, x.slot)
		if y.number() != x.number() || chunkOf(e.C, x.addr) != 0 || chunkOf(e.C, y.addr) != 1 {
			t.Fatalf("it stood at %d, and stands at %d", x.addr, y.addr)
		}
		wantThere(t, e, x, l[9])
		if kindOf(e.M.Peek(chunkAt(e.C, 0))) != free {
			t.Fatal("the chunk is not free")
		}
	}
}

func TestAFullArenaGetsRoom(t *testing.T) {
	// Where no chunk is free, objects that live in sparse chunks go into the room of the open one, as far as that goes; and what is free by that is used again.
	e := entered(t, arena(60, 4, 30))
	var l []thing
	for range 40 {
		l = append(l, made(t, e, 2, false))
	}
	refused := alloc.New(2, false)
	run(t, e, refused)
	if refused.Done().E != api.ErrMemory {
		t.Fatal(refused.Done())
	}
	// One of each ten stays, of the last, open chunk none.
	letGo(t, e, l[1:10]...)
	letGo(t, e, l[11:20]...)
	letGo(t, e, l[21:]...)
	c := compact.New()
	toRest(t, e, c)
	// The open chunk is full: nobody can be moved, and no chunk is free.
	if freeOnes(e) != 0 || c.Work().Moved != 0 || c.Work().Left == 0 {
		t.Fatalf("%+v", c.Work())
	}
	letGo(t, e, l[10])
	toRest(t, e, c)
	wantRest(t, e)
	// Those two are in one of them by now, and the one that was full is free, too.
	if freeOnes(e) != 3 {
		t.Fatalf("%d chunks are free", freeOnes(e))
	}
	wantThere(t, e, l[0], l[20])
	for range 38 {
		made(t, e, 2, false)
	}
	wantThere(t, e, l[0], l[20])
}

func TestAChunkStaysWhileAThreadIsPinned(t *testing.T) {
	// It was pinned ahead of the chunk's being evacuated, from whichever step on: the chunk is not free, and its words stay, until it is pinned no more.
	for ahead := range 60 {
		for who := range 3 {
			e := entered(t, arena(12, 4, 27))
			l := []thing{}
			for range 10 {
				l = append(l, made(t, e, 2, false))
			}
			letGo(t, e, l[1:9]...)
			c := compact.New()
			for range ahead {
				c.Step(e)
			}
			run(t, by(e, who), &pin.In{})
			at := chunkAt(e.C, 0)
			was := kindOf(e.M.Peek(at)) == quiet
			for kindOf(e.M.Peek(at)) != quiet {
				step(t, e, c)
			}
			w := words(e.M)[baseAt(e.C, 0):baseAt(e.C, 1)]
			for range 7 * 40 {
				step(t, e, c)
				if !was && (kindOf(e.M.Peek(at)) != quiet || !slices.Equal(words(e.M)[baseAt(e.C, 0):baseAt(e.C, 1)], w)) {
					t.Fatalf("thread %d is pinned; the chunk is %#x", who, e.M.Peek(at))
				}
			}
			// Not for ever does the epoch go on, though it was pinned later.
			if n := e.M.Peek(epochAt); n > 3 {
				t.Fatalf("the epoch is %d", n)
			}
			for c.Busy() {
				step(t, e, c)
			}
			idle := c.Idle()
			pin.Out{}.Step(by(e, who))
			rounds(t, e, c, 2)
			if kindOf(e.M.Peek(at)) != free || idle == 0 {
				t.Fatalf("nobody is pinned; the chunk is %#x; idle %d", e.M.Peek(at), idle)
			}
			wantWork(t, c, 1, 0, 1, 1, -1)
			wantThere(t, e, l[0], l[9])
		}
	}
}

func TestAChunkInWhichSomebodyIsAboutToShowAnObject(t *testing.T) {
	// From the step on at which its words are got, till its head is Ready: the chunk is left, round by round.
	for size := 1; size <= api.MostSize; size++ {
		// Two objects of the class, and the one that is about to be shown, last, or between them.
		for between := range 3 {
			for more := range 4 {
				wantAbout(t, size, between, more)
			}
		}
	}
}

// wantAbout asks for that of one of a size, behind so many objects of its chunk, that did so many steps more than to get its words.
func wantAbout(t *testing.T, size, between, more int) {
	t.Helper()
	room := rooms[classes[size]]
	e := entered(t, arena(12, 5, max(api.LeastChunk, 3*room)))
	many := e.C.Words / room
	var l []thing
	for range between {
		l = append(l, made(t, e, size, false))
	}
	a := alloc.New(size, false)
	for usedOf(e.M.Peek(chunkAt(e.C, 0))) == between*room {
		a.Step(by(e, 2))
	}
	// Behind that come the chunk's live words, the head, the handle's word, the head.
	for range more {
		a.Step(by(e, 2))
	}
	for len(l) < many {
		l = append(l, made(t, e, size, false))
	}
	if !isOpen(e, 1) {
		t.Fatal("chunk 0 is still the open one")
	}
	inside := l[:many-1]
	stay := inside[len(inside)-1]
	letGo(t, e, inside[:len(inside)-1]...)
	e.C.Sparse = 1000
	c := compact.New()
	moved := 0
	if between == many-1 {
		// It is looked at behind the other ones.
		moved = 1
	}
	for n := 1; n <= 4; n++ {
		round(t, e, c)
		wantWork(t, c, 0, n, 0, moved, n)
		if w := e.M.Peek(chunkAt(e.C, 0)); kindOf(w) != open || usedOf(w) != many*room {
			t.Fatalf("the chunk is %#x", w)
		}
	}
	run(t, by(e, 2), a)
	if a.Done().E != api.OK {
		t.Fatal(a.Done())
	}
	x := found(e, int(a.Done().Handle&(1<<16-1)))
	if chunkOf(e.C, x.addr) != 0 {
		t.Fatalf("it stands at %d", x.addr)
	}
	for k := range x.size {
		wantWord(t, e, x, k, 0)
		laid(t, e, x, k, x.value(k))
	}
	toRest(t, e, c)
	wantRest(t, e)
	wantThere(t, e, x, stay, l[many-1])
	if chunkOf(e.C, found(e, x.slot).addr) == 0 || c.Work().Left != 4 {
		t.Fatalf("%+v", c.Work())
	}
}
