package alloc_test

import (
	"slices"
	"testing"

	"footlocker/alloc"
	"footlocker/api"
	"footlocker/layout"
	"footlocker/mem"
	"footlocker/place"
)

// arena is an arena of so many slots, and so many chunks of so many words.
func arena(slots, chunks, words int) api.Config {
	return api.Config{Threads: 3, Slots: slots, Chunks: chunks, Words: words, Gens: 9, Sparse: 600, Tries: 3}
}

// entered is somebody in a fresh arena.
func entered(t *testing.T, c api.Config, who int) layout.Env {
	t.Helper()
	m, e := layout.Fresh(c)
	if e != api.OK {
		t.Fatal(e)
	}
	return layout.Env{C: c, M: m, Who: who}
}

// filled is somebody in a fresh arena of which no two words are the same, but for those on which it hangs who takes slots and words: a word that is changed by mistake, or loaded in the place of another one, is seen. Each slot is in another life, and its word has an address and a version.
func filled(t *testing.T, c api.Config, who int) layout.Env {
	t.Helper()
	e := entered(t, c, who)
	kept := []int{topAt}
	for class := range rooms {
		kept = append(kept, openAt(class))
	}
	for s := range c.Slots {
		kept = append(kept, slotAt(c, s)+1)
	}
	for i := range c.Chunks {
		kept = append(kept, chunkAt(c, i))
	}
	for a := range e.M.Len() {
		if !slices.Contains(kept, a) {
			e.M.Store(a, 1<<60+uint64(a))
		}
	}
	for s := range c.Slots {
		e.M.Store(slotAt(c, s), slotWord(free, 100+s, lifeOf(s), 700+s))
	}
	return e
}

// lifeOf is in which life a slot of such an arena is.
func lifeOf(s int) int {
	return 3 + 7*s
}

// rooms is how many words each class takes: 2, 4, 8, 16, and one for the head.
var rooms = [...]int{3, 5, 9, 17}

// classes is the class of each size; 0 has none.
var classes = [...]int{-1, 0, 0, 1, 1, 2, 2, 2, 2, 3, 3, 3, 3, 3, 3, 3, 3}

// The first free slot's word stands behind the epoch.
const topAt = 1

// openAt is where the open chunk of a class stands: behind the first free slot.
func openAt(class int) int {
	return 2 + class
}

// slotAt is where a slot's word stands, its link behind it: behind four open chunks, the pins, and the slots ahead of it.
func slotAt(c api.Config, s int) int {
	return 6 + c.Threads + 2*s
}

// chunkAt is where a chunk's word stands, how many of its words live behind it.
func chunkAt(c api.Config, i int) int {
	return slotAt(c, c.Slots) + 3*i
}

// baseAt is where a chunk's words stand.
func baseAt(c api.Config, i int) int {
	return chunkAt(c, c.Chunks) + c.Words*i
}

const (
	free = 0 // of a slot, and of a chunk
	live = 1 // of a slot
	open = 1 // of a chunk
	evac = 2

	pending = 1 // of a head
	ready   = 2
)

// top is the word of a first free slot (-1: none), and a count.
func top(s int, count uint64) uint64 { return uint64(s+1) | count<<17 }

// What such a word has.
func firstOf(w uint64) int    { return int(w&(1<<17-1)) - 1 }
func countOf(w uint64) uint64 { return w >> 17 }

// slotWord is a handle's word.
func slotWord(state, addr, gen, ver int) uint64 {
	return uint64(state) | uint64(addr)<<3 | uint64(gen)<<23 | uint64(ver)<<39
}

// genOf is in which life a slot is.
func genOf(w uint64) int { return int(w >> 23 & (1<<16 - 1)) }

// head is an object's head.
func head(kind, size, s, gen int, own bool) uint64 {
	w := uint64(kind) | uint64(size)<<2 | uint64(s)<<18 | uint64(gen)<<34
	if own {
		w |= 1 << 50
	}
	return w
}

// handle is a handle as a number.
func handle(s, gen int) uint64 { return uint64(s) | uint64(gen)<<16 }

// chunk is a chunk's word.
func chunk(state, class, used int, stamp uint64) uint64 {
	return uint64(state) | uint64(class)<<2 | uint64(used)<<8 | stamp<<28
}

// What such a word has.
func stateOf(w uint64) int    { return int(w & 3) }
func classOf(w uint64) int    { return int(w >> 2 & 63) }
func usedOf(w uint64) int     { return int(w >> 8 & (1<<20 - 1)) }
func stampOf(w uint64) uint64 { return w >> 28 }

// wordOf is a chunk's word, without a step.
func wordOf(e layout.Env, i int) uint64 {
	return e.M.Peek(chunkAt(e.C, i))
}

// words is a memory's words, without a step.
func words(m *mem.Mem) []uint64 {
	l := make([]uint64, m.Len())
	for a := range l {
		l[a] = m.Peek(a)
	}
	return l
}

// freeOnes is the free slots, the first one first, as the links tell them; a slot that comes twice ends them.
func freeOnes(e layout.Env) []int {
	var l []int
	for s := firstOf(e.M.Peek(topAt)); s >= 0; s = firstOf(e.M.Peek(slotAt(e.C, s) + 1)) {
		l = append(l, s)
		if len(l) > e.C.Slots {
			break
		}
	}
	return l
}

// wantFree asks which slots are free, the first one first.
func wantFree(t *testing.T, e layout.Env, want ...int) {
	t.Helper()
	if l := freeOnes(e); !slices.Equal(l, want) {
		t.Fatalf("free are %v, not %v", l, want)
	}
}

// touch is what one step must do: to which word it is done, and what that word is behind it.
type touch struct {
	addr int
	w    uint64
}

// wantStep does one step and asks that it touches that word alone, by Who, changes no other, and tells whether it is done.
func wantStep(t *testing.T, e layout.Env, a *alloc.Alloc, want touch, done bool) {
	t.Helper()
	now := e.Now()
	l := words(e.M)
	changed := l[want.addr] != want.w
	l[want.addr] = want.w
	// Somebody else did what was done ahead of it.
	e.M.By(e.Who + 1)
	if got := a.Step(e); got != done {
		t.Fatalf("by %d at word %d: done is %v, not %v", e.Who, want.addr, got, done)
	}
	if e.Now() != now+1 {
		t.Fatalf("by %d at word %d: %d steps, not one", e.Who, want.addr, e.Now()-now)
	}
	if last := (api.Touch{Addr: want.addr, Who: e.Who, Changed: changed}); e.M.Last() != last {
		t.Fatalf("noted is %v, not %v", e.M.Last(), last)
	}
	if !slices.Equal(words(e.M), l) {
		t.Fatalf("by %d at word %d: the words are %v, not %v", e.Who, want.addr, words(e.M), l)
	}
}

// wantDone asks what it came to.
func wantDone(t *testing.T, a *alloc.Alloc, want api.Done) {
	t.Helper()
	if d := a.Done(); d != want {
		t.Fatalf("it came to %v, not %v", d, want)
	}
}

// wantOn asks for a step behind which it is not done, and tells nothing.
func wantOn(t *testing.T, e layout.Env, a *alloc.Alloc, addr int, w uint64) {
	t.Helper()
	wantStep(t, e, a, touch{addr, w}, false)
	wantDone(t, a, api.Done{})
}

// wantLook asks for a step that loads a word.
func wantLook(t *testing.T, e layout.Env, a *alloc.Alloc, addr int) {
	t.Helper()
	wantOn(t, e, a, addr, e.M.Peek(addr))
}

// wantTaken asks for the steps that take the first free slot, and load its word: which one that is.
func wantTaken(t *testing.T, e layout.Env, a *alloc.Alloc) int {
	t.Helper()
	w := e.M.Peek(topAt)
	s := firstOf(w)
	wantLook(t, e, a, topAt)
	wantLook(t, e, a, slotAt(e.C, s)+1)
	wantOn(t, e, a, topAt, top(firstOf(e.M.Peek(slotAt(e.C, s)+1)), countOf(w)+1))
	wantLook(t, e, a, slotAt(e.C, s))
	return s
}

// wantWords asks for the steps that get words of a class: where, and in which chunk. Nobody disturbs it, and there is room.
func wantWords(t *testing.T, e layout.Env, a *alloc.Alloc, class int) api.Spot {
	t.Helper()
	i := wantSeen(t, e, a, class)
	if i < 0 || e.C.Words-usedOf(wordOf(e, i)) < rooms[class] {
		i = wantOpened(t, e, a, class)
	}
	w := wordOf(e, i)
	wantOn(t, e, a, chunkAt(e.C, i), chunk(open, class, usedOf(w)+rooms[class], stampOf(w)))
	return api.Spot{Addr: baseAt(e.C, i) + usedOf(w), Chunk: i}
}

// wantSeen asks for the steps by which it is seen which chunk is open (-1: none), and what that one is.
func wantSeen(t *testing.T, e layout.Env, a *alloc.Alloc, class int) int {
	t.Helper()
	i := int(e.M.Peek(openAt(class))) - 1
	wantLook(t, e, a, openAt(class))
	if i >= 0 {
		wantLook(t, e, a, chunkAt(e.C, i))
	}
	return i
}

// wantOpened asks for the steps by which the first free chunk is the open one, and is seen as that.
func wantOpened(t *testing.T, e layout.Env, a *alloc.Alloc, class int) int {
	t.Helper()
	i := 0
	for ; stateOf(wordOf(e, i)) != free; i++ {
		wantLook(t, e, a, chunkAt(e.C, i))
	}
	wantLook(t, e, a, chunkAt(e.C, i))
	wantOn(t, e, a, chunkAt(e.C, i), chunk(open, class, 0, stampOf(wordOf(e, i))+1))
	wantOn(t, e, a, openAt(class), uint64(i+1))
	return wantSeen(t, e, a, class)
}

// thing is an object: what it is, which slot it has, and where it stands.
type thing struct {
	size int
	own  bool
	slot int
	gen  int
	spot api.Spot
}

// wantShown asks for the last steps but one: the words live, the head is laid, the handle's word is laid. It is the step of the last one.
func wantShown(t *testing.T, e layout.Env, a *alloc.Alloc, x thing) int {
	t.Helper()
	at := chunkAt(e.C, x.spot.Chunk) + 1
	wantOn(t, e, a, at, e.M.Peek(at)+uint64(rooms[classes[x.size]]))
	wantOn(t, e, a, x.spot.Addr, head(pending, x.size, x.slot, x.gen, x.own))
	wantOn(t, e, a, slotAt(e.C, x.slot), slotWord(live, x.spot.Addr, x.gen, 0))
	return e.Now()
}

// wantReady asks for the last step, and what it came to.
func wantReady(t *testing.T, e layout.Env, a *alloc.Alloc, x thing, shown int) {
	t.Helper()
	wantStep(t, e, a, touch{x.spot.Addr, head(ready, x.size, x.slot, x.gen, x.own)}, true)
	wantDone(t, a, api.Done{Handle: handle(x.slot, x.gen), Stamp: shown})
}

// wantRest asks for all steps behind those that take a slot.
func wantRest(t *testing.T, e layout.Env, a *alloc.Alloc, size int, own bool, s int) thing {
	t.Helper()
	x := thing{size: size, own: own, slot: s, gen: genOf(e.M.Peek(slotAt(e.C, s)))}
	x.spot = wantWords(t, e, a, classes[size])
	wantReady(t, e, a, x, wantShown(t, e, a, x))
	return x
}

// wantMade asks that somebody who begins now, and whom nobody disturbs, makes an object of that size, step by step.
func wantMade(t *testing.T, e layout.Env, size int, own bool) thing {
	t.Helper()
	a := alloc.New(size, own)
	wantDone(t, a, api.Done{})
	return wantRest(t, e, a, size, own, wantTaken(t, e, a))
}

// wantGiven asks for the last steps of one who found no room: its slot is given back.
func wantGiven(t *testing.T, e layout.Env, a *alloc.Alloc, s int) {
	t.Helper()
	w := e.M.Peek(topAt)
	wantLook(t, e, a, topAt)
	wantOn(t, e, a, slotAt(e.C, s)+1, top(firstOf(w), 0))
	wantStep(t, e, a, touch{topAt, top(s, countOf(w)+1)}, true)
	wantDone(t, a, api.Done{E: api.ErrMemory, Stamp: e.Now()})
}

// wantNoRoom asks that somebody who begins now, and whom nobody disturbs, takes a slot, finds no room, and gives the slot back.
func wantNoRoom(t *testing.T, e layout.Env, size int) {
	t.Helper()
	a := alloc.New(size, false)
	was := freeOnes(e)
	s := wantTaken(t, e, a)
	wantFree(t, e, was[1:]...)
	wantSeen(t, e, a, classes[size])
	for i := range e.C.Chunks {
		wantLook(t, e, a, chunkAt(e.C, i))
	}
	wantGiven(t, e, a, s)
	wantFree(t, e, was...)
}

// wantNoHandle asks that somebody who begins now finds no free slot.
func wantNoHandle(t *testing.T, e layout.Env, size int) {
	t.Helper()
	a := alloc.New(size, false)
	wantStep(t, e, a, touch{topAt, e.M.Peek(topAt)}, true)
	wantDone(t, a, api.Done{E: api.ErrHandles, Stamp: e.Now()})
}

// made is what it came to for one who is alone, and how many steps that took.
func made(e layout.Env, size int, own bool) (api.Done, int) {
	a := alloc.New(size, own)
	now := e.Now()
	for !a.Step(e) {
	}
	return a.Done(), e.Now() - now
}

func TestExampleOfTheChapter(t *testing.T) {
	// Three steps take a slot, one loads its word, three get words of an open chunk, four lay the object.
	e := entered(t, arena(8, 4, 20), 0)
	p := place.New(0)
	for !p.Step(e) {
	}
	if d, n := made(e, 2, false); d.E != api.OK || d.Handle != 65536 || n != 11 {
		t.Error(d, n)
	}
	// Four more open a chunk, where none is open.
	e = entered(t, arena(8, 4, 20), 0)
	if d, n := made(e, 2, false); d.E != api.OK || d.Handle != 65536 || n != 15 {
		t.Error(d, n)
	}
}

func TestAloneInAFreshArena(t *testing.T) {
	// All steps, written out: 8 slots from word 9 on, 4 chunks from word 25 on, their words from word 37 on.
	e := entered(t, arena(8, 4, 20), 1)
	now := e.Now()
	a := alloc.New(3, true)
	wantOn(t, e, a, 1, 1)
	wantOn(t, e, a, 10, 2)
	wantOn(t, e, a, 1, 2+1<<17)
	wantOn(t, e, a, 9, 1<<23)
	wantOn(t, e, a, 3, 0)
	wantOn(t, e, a, 25, 0)
	wantOn(t, e, a, 25, 1+1<<2+1<<28)
	wantOn(t, e, a, 3, 1)
	wantOn(t, e, a, 3, 1)
	wantOn(t, e, a, 25, 1+1<<2+1<<28)
	wantOn(t, e, a, 25, 1+1<<2+5<<8+1<<28)
	wantOn(t, e, a, 26, 5)
	wantOn(t, e, a, 37, 1+3<<2+1<<34+1<<50)
	wantOn(t, e, a, 9, 1+37<<3+1<<23)
	wantStep(t, e, a, touch{37, 2 + 3<<2 + 1<<34 + 1<<50}, true)
	wantDone(t, a, api.Done{Handle: 65536, Stamp: now + 14})
}

func TestEachSizeAlone(t *testing.T) {
	for size := 1; size <= api.MostSize; size++ {
		for _, own := range []bool{false, true} {
			e := filled(t, arena(3, 2, 40), 2)
			for s := range 2 {
				x := wantMade(t, e, size, own)
				at := baseAt(e.C, 0) + s*rooms[classes[size]]
				if x.slot != s || x.gen != lifeOf(s) || x.spot != (api.Spot{Addr: at, Chunk: 0}) {
					t.Fatal(x)
				}
			}
		}
	}
}

func TestSizesOneBehindTheOther(t *testing.T) {
	// Handles of free slots, in a fresh arena the first one first.
	for _, c := range []api.Config{arena(16, 16, 17), arena(16, 8, 60), arena(16, 4, 256)} {
		e := entered(t, c, 0)
		for size := 1; size <= api.MostSize; size++ {
			if x := wantMade(t, e, size, size%3 == 0); handle(x.slot, x.gen) != uint64(65536+size-1) {
				t.Fatal(x)
			}
		}
		wantNoHandle(t, e, 1)
	}
}

func TestWordsAreNoughts(t *testing.T) {
	e := entered(t, arena(16, 16, 40), 0)
	for size := 1; size <= api.MostSize; size++ {
		x := wantMade(t, e, size, false)
		for k := 1; k < rooms[classes[size]]; k++ {
			if w := e.M.Peek(x.spot.Addr + k); w != 0 {
				t.Errorf("word %d of an object of size %d is %#x", k, size, w)
			}
		}
	}
}

func TestWhatLivesIsCounted(t *testing.T) {
	e := entered(t, arena(30, 12, 40), 0)
	want := make([]uint64, 12)
	for i := range 20 {
		x := wantMade(t, e, 1+i*5%16, false)
		want[x.spot.Chunk] += uint64(rooms[classes[x.size]])
		for k, n := range want {
			if w := e.M.Peek(chunkAt(e.C, k) + 1); w != n {
				t.Fatalf("of chunk %d live %d words, not %d", k, w, n)
			}
			if uint64(usedOf(wordOf(e, k))) != n {
				t.Fatalf("of chunk %d %d words are used, not %d", k, usedOf(wordOf(e, k)), n)
			}
		}
	}
}

func TestEachSlotInEachLife(t *testing.T) {
	for _, gen := range []int{1, 2, 8, 9, 10, 255, 1<<15 + 1, api.MostGen - 1, api.MostGen} {
		for s := range 3 {
			e := filled(t, arena(3, 2, 40), 1)
			// Slot s is the first one, and no other one is free.
			e.M.Store(topAt, top(s, 5))
			e.M.Store(slotAt(e.C, s)+1, top(-1, 0))
			e.M.Store(slotAt(e.C, s), slotWord(free, 0, gen, 0))
			if x := wantMade(t, e, 2, true); x.slot != s || x.gen != gen {
				t.Fatal(x)
			}
			wantNoHandle(t, e, 2)
		}
	}
}

func TestSizesOfNoClass(t *testing.T) {
	e := filled(t, arena(3, 2, 40), 1)
	now, last, l := e.Now(), e.M.Last(), words(e.M)
	for _, size := range odd() {
		if size >= 1 && size <= api.MostSize {
			continue
		}
		a := alloc.New(size, size%2 == 0)
		wantDone(t, a, api.Done{})
		for range 3 {
			if !a.Step(e) {
				t.Fatalf("size %d: there is nothing to do", size)
			}
			wantDone(t, a, api.Done{E: api.ErrSize, Stamp: now})
		}
	}
	if e.Now() != now || e.M.Last() != last || !slices.Equal(words(e.M), l) {
		t.Error("touched was", e.M.Last())
	}
}

func TestAClassIsAskedAheadOfAllElse(t *testing.T) {
	// No slot, no room, no arena: the size is named first.
	full := entered(t, arena(1, 1, 17), 0)
	wantMade(t, full, 16, false)
	for _, e := range []layout.Env{full, {}, {C: full.C}, {M: full.M}} {
		for _, size := range []int{-1, 0, 17} {
			a := alloc.New(size, true)
			if !a.Step(e) || a.Done().E != api.ErrSize {
				t.Error(size, a.Done())
			}
		}
	}
}

func TestWithoutAFreeSlot(t *testing.T) {
	for slots := 1; slots <= 4; slots++ {
		e := filled(t, arena(slots, 2, 60), 1)
		for range slots {
			wantMade(t, e, 2, false)
		}
		// There is room; and where there is none either, slots are named first.
		for size := 1; size <= api.MostSize; size++ {
			wantNoHandle(t, e, size)
		}
		for i := range 2 {
			e.M.Store(chunkAt(e.C, i), chunk(evac, 0, 60, 4))
		}
		wantNoHandle(t, e, 2)
	}
}

func TestWithoutRoom(t *testing.T) {
	for size := 1; size <= api.MostSize; size++ {
		room := rooms[classes[size]]
		for words := api.LeastChunk; words <= 40; words++ {
			e := filled(t, arena(30, 2, words), 2)
			for range 2 * (words / room) {
				wantMade(t, e, size, false)
			}
			for range 3 {
				wantNoRoom(t, e, size)
			}
			// What is not made changes nothing: of slots just the count, of chunks nothing.
			if w := e.M.Peek(topAt); firstOf(w) != 2*(words/room) {
				t.Fatal("the first free slot is", firstOf(w))
			}
		}
	}
}

func TestWithoutRoomForTheLastSlot(t *testing.T) {
	e := filled(t, arena(1, 2, 20), 2)
	for i := range 2 {
		e.M.Store(chunkAt(e.C, i), chunk(evac, 1, 20, 4))
	}
	for size := 1; size <= api.MostSize; size++ {
		wantNoRoom(t, e, size)
	}
	// A chunk that is free again has room, and the slot is still there.
	e.M.Store(chunkAt(e.C, 1), chunk(free, 0, 0, 5))
	if x := wantMade(t, e, 16, false); x.slot != 0 || x.spot.Chunk != 1 {
		t.Error(x)
	}
	wantNoHandle(t, e, 1)
}

func TestAsManyAsThereAreSlots(t *testing.T) {
	// However often something is refused for want of room, no slot is lost.
	for slots := 1; slots <= 12; slots++ {
		e := filled(t, arena(slots, 2, 36), 0)
		for n := range slots {
			wantFits(t, e)
			if n == 0 {
				wantMade(t, e, 16, false)
				continue
			}
			if n > 1 {
				wantNoRoom(t, e, 8)
			}
			wantMade(t, e, 2, false)
		}
		wantFits(t, e)
		for size := 1; size <= api.MostSize; size++ {
			wantNoHandle(t, e, size)
		}
	}
}

// wantFits asks that the free slots are all those whose word is not Live, each once.
func wantFits(t *testing.T, e layout.Env) {
	t.Helper()
	l := freeOnes(e)
	slices.Sort(l)
	var want []int
	for s := range e.C.Slots {
		if e.M.Peek(slotAt(e.C, s))&7 != live {
			want = append(want, s)
		}
	}
	if !slices.Equal(l, want) {
		t.Fatalf("free are %v, not %v", l, want)
	}
}

func TestTheGreatestArena(t *testing.T) {
	c := api.Config{Threads: api.MostThreads, Slots: api.MostSlots, Chunks: api.MostChunks, Words: api.MostChunk, Gens: api.MostGen, Sparse: 600, Tries: 3}
	for class, room := range rooms {
		e := entered(t, c, 7)
		each := c.Words / room
		for n := range c.Chunks * each {
			d, _ := made(e, 2<<class, true)
			at := baseAt(c, n/each) + n%each*room
			if d.E != api.OK || d.Handle != handle(n, 1) || d.Stamp != e.Now()-1 {
				t.Fatal(n, d)
			}
			if w := e.M.Peek(slotAt(c, n)); w != slotWord(live, at, 1, 0) {
				t.Fatalf("slot %d: %#x", n, w)
			}
			if w := e.M.Peek(at); w != head(ready, 2<<class, n, 1, true) {
				t.Fatalf("the head of slot %d: %#x", n, w)
			}
		}
		if d, _ := made(e, 2<<class, true); d != (api.Done{E: api.ErrMemory, Stamp: e.Now()}) {
			t.Fatal(d)
		}
	}
	// The last slot of all has a handle, too.
	e := entered(t, c, 7)
	e.M.Store(topAt, top(c.Slots-1, 0))
	if d, _ := made(e, 1, false); d.Handle != handle(c.Slots-1, 1) {
		t.Error(d)
	}
}

func TestTheLeastArena(t *testing.T) {
	for size := 1; size <= api.MostSize; size++ {
		e := filled(t, api.Config{Threads: 1, Slots: 1, Chunks: 1, Words: api.LeastChunk, Gens: 1, Tries: 1}, 0)
		wantMade(t, e, size, false)
		wantNoHandle(t, e, size)
	}
}

func TestWhatIsDoneStaysDone(t *testing.T) {
	e := filled(t, arena(2, 1, 20), 0)
	l := []*alloc.Alloc{alloc.New(16, false), alloc.New(2, false), alloc.New(17, false), alloc.New(0, true)}
	var told []api.Done
	for _, a := range l {
		for !a.Step(e) {
		}
		told = append(told, a.Done())
	}
	// There is room now, and a slot.
	e.M.Store(chunkAt(e.C, 0), chunk(free, 0, 0, 9))
	now, last, was := e.Now(), e.M.Last(), words(e.M)
	for _, v := range []layout.Env{e, {}, {C: e.C}, {M: e.M}, e} {
		for i, a := range l {
			if !a.Step(v) {
				t.Error("it was done")
			}
			wantDone(t, a, told[i])
		}
	}
	if e.Now() != now || e.M.Last() != last || !slices.Equal(words(e.M), was) {
		t.Error("who is done does nothing any more", e.M.Last())
	}
}

func TestNobodyMakesAnObject(t *testing.T) {
	e := filled(t, arena(2, 2, 20), 1)
	now, last, l := e.Now(), e.M.Last(), words(e.M)
	var a *alloc.Alloc
	for range 5 {
		if !a.Step(e) || !a.Step(layout.Env{}) {
			t.Error("a nil one has nothing to do")
		}
		wantDone(t, a, api.Done{E: api.ErrInput})
	}
	if e.Now() != now || e.M.Last() != last || !slices.Equal(words(e.M), l) {
		t.Error("a nil one touched", e.M.Last())
	}
}

func TestOneThatNobodyAskedForAnything(t *testing.T) {
	// It has no size.
	e := filled(t, arena(2, 2, 20), 1)
	now := e.Now()
	a := &alloc.Alloc{}
	if !a.Step(e) || e.Now() != now {
		t.Error("there is nothing to do")
	}
	wantDone(t, a, api.Done{E: api.ErrSize, Stamp: now})
}

func TestDoneIsNoStep(t *testing.T) {
	e := filled(t, arena(2, 2, 20), 1)
	a := alloc.New(4, false)
	for is := false; !is; is = a.Step(e) {
		now := e.Now()
		for range 5 {
			a.Done()
		}
		if e.Now() != now {
			t.Error("Done touched", e.M.Last())
		}
	}
}

func TestAllocsShareNothing(t *testing.T) {
	// Two that were copied midway go their own ways, wherever that was.
	for ahead := range 16 {
		e := filled(t, arena(4, 3, 40), 0)
		half := *alloc.New(4, false)
		for range ahead {
			half.Step(e)
		}
		other := half
		var n int
		for n = ahead; n < 16 && !half.Step(e); n++ {
		}
		d := half.Done()
		// The other one stands where it stood: it has steps to do, if there were any left.
		if ahead < 15 && (other.Done() != api.Done{} || other.Step(e) && ahead < 14) {
			t.Errorf("behind %d steps: %v", ahead, other.Done())
		}
		for range 30 {
			other.Step(e)
		}
		if half.Done() != d || d.E != api.OK {
			t.Errorf("behind %d steps: %v, and then %v", ahead, d, half.Done())
		}
	}
	if alloc.New(1, false) == alloc.New(1, false) {
		t.Error("each is one of its own")
	}
}

func TestDoneIsTheCallersOwn(t *testing.T) {
	e := entered(t, arena(2, 2, 20), 1)
	a := alloc.New(4, false)
	for !a.Step(e) {
	}
	d := a.Done()
	d.E, d.Handle, d.Value, d.Stamp = 5, 6, 7, 8
	wantDone(t, a, api.Done{Handle: 65536, Stamp: e.Now() - 1})
}
