package place_test

import (
	"slices"
	"testing"

	"footlocker/api"
	"footlocker/layout"
	"footlocker/mem"
	"footlocker/place"
)

// arena is an arena of so many chunks of so many words.
func arena(chunks, words int) api.Config {
	return api.Config{Threads: 3, Slots: 2, Chunks: chunks, Words: words, Gens: 9, Sparse: 600, Tries: 3}
}

// entered is somebody in a fresh arena.
func entered(t *testing.T, c api.Config, who int) layout.Env {
	t.Helper()
	m, e := layout.Fresh(c)
	if e != api.OK {
		t.Fatal(e)
	}
	return layout.Env{C: c, M: m, Who: who}
}

// filled is somebody in a fresh arena of which no two words are the same, but for the open chunks' places and the chunks' words: a word that is changed by mistake, or loaded in the place of another one, is seen.
func filled(t *testing.T, c api.Config, who int) layout.Env {
	t.Helper()
	e := entered(t, c, who)
	var kept []int
	for class := range rooms {
		kept = append(kept, openAt(class))
	}
	for i := range c.Chunks {
		kept = append(kept, chunkAt(c, i))
	}
	for a := range e.M.Len() {
		if !slices.Contains(kept, a) {
			e.M.Store(a, 1<<60+uint64(a))
		}
	}
	return e
}

// rooms is how many words each class takes: 2, 4, 8, 16, and one for the head.
var rooms = [...]int{3, 5, 9, 17}

// openAt is where the open chunk of a class stands: behind the epoch and the first free slot.
func openAt(class int) int {
	return 2 + class
}

// chunkAt is where a chunk's word stands: behind four open chunks, the pins and the slots.
func chunkAt(c api.Config, i int) int {
	return 6 + c.Threads + 2*c.Slots + 3*i
}

// baseAt is where a chunk's words stand.
func baseAt(c api.Config, i int) int {
	return chunkAt(c, c.Chunks) + c.Words*i
}

const (
	free  = 0
	open  = 1
	evac  = 2
	quiet = 3
)

// chunk is a chunk's word.
func chunk(state, class, used int, stamp uint64) uint64 {
	return uint64(state) | uint64(class)<<2 | uint64(used)<<8 | stamp<<28
}

// What such a word has.
func stateOf(w uint64) int    { return int(w & 3) }
func classOf(w uint64) int    { return int(w >> 2 & 63) }
func usedOf(w uint64) int     { return int(w >> 8 & (1<<20 - 1)) }
func stampOf(w uint64) uint64 { return w >> 28 }

// wordOf is a chunk's word, without a step.
func wordOf(e layout.Env, i int) uint64 {
	return e.M.Peek(chunkAt(e.C, i))
}

// lay lays a chunk's word.
func lay(e layout.Env, i int, w uint64) {
	e.M.Store(chunkAt(e.C, i), w)
}

// wantChunk asks what a chunk is.
func wantChunk(t *testing.T, e layout.Env, i, state, class, used int, stamp uint64) {
	t.Helper()
	if w := wordOf(e, i); w != chunk(state, class, used, stamp) {
		t.Fatalf("chunk %d: state %d, class %d, used %d, stamp %d, not %d, %d, %d, %d", i, stateOf(w), classOf(w), usedOf(w), stampOf(w), state, class, used, stamp)
	}
}

// wantOpen asks which chunks are open, of each class; -1: none.
func wantOpen(t *testing.T, e layout.Env, want ...int) {
	t.Helper()
	for class, i := range want {
		if w := e.M.Peek(openAt(class)); w != uint64(i+1) {
			t.Fatalf("of class %d chunk %d is open, not %d", class, int(w)-1, i)
		}
	}
}

// words is a memory's words, without a step.
func words(m *mem.Mem) []uint64 {
	l := make([]uint64, m.Len())
	for a := range l {
		l[a] = m.Peek(a)
	}
	return l
}

// touch is what one step must do: to which word it is done, and what that word is behind it.
type touch struct {
	addr int
	w    uint64
}

// wantStep does one step and asks that it touches that word alone, by Who, changes no other, and tells whether it is done.
func wantStep(t *testing.T, e layout.Env, p *place.Place, want touch, done bool) {
	t.Helper()
	now := e.Now()
	l := words(e.M)
	changed := l[want.addr] != want.w
	l[want.addr] = want.w
	// Somebody else did what was done ahead of it.
	e.M.By(e.Who + 1)
	if got := p.Step(e); got != done {
		t.Fatalf("by %d at word %d: done is %v, not %v", e.Who, want.addr, got, done)
	}
	if e.Now() != now+1 {
		t.Fatalf("by %d at word %d: %d steps, not one", e.Who, want.addr, e.Now()-now)
	}
	if last := (api.Touch{Addr: want.addr, Who: e.Who, Changed: changed}); e.M.Last() != last {
		t.Fatalf("noted is %v, not %v", e.M.Last(), last)
	}
	if !slices.Equal(words(e.M), l) {
		t.Fatalf("by %d at word %d: the words are %v, not %v", e.Who, want.addr, words(e.M), l)
	}
}

// wantSpot asks which words somebody got.
func wantSpot(t *testing.T, p *place.Place, want api.Spot, is bool) {
	t.Helper()
	if s, ok := p.Spot(); s != want || ok != is {
		t.Fatalf("the words are %v, %v, not %v, %v", s, ok, want, is)
	}
}

// wantOn asks for a step behind which there are no words yet.
func wantOn(t *testing.T, e layout.Env, p *place.Place, addr int, w uint64) {
	t.Helper()
	wantStep(t, e, p, touch{addr, w}, false)
	wantSpot(t, p, api.Spot{}, false)
}

// wantSeen asks for the step by which it is seen which chunk is open (-1: none).
func wantSeen(t *testing.T, e layout.Env, p *place.Place, class, i int) {
	t.Helper()
	wantOn(t, e, p, openAt(class), uint64(i+1))
}

// wantLook asks for a step that loads a chunk's word, and is not the last one.
func wantLook(t *testing.T, e layout.Env, p *place.Place, i int) {
	t.Helper()
	wantOn(t, e, p, chunkAt(e.C, i), wordOf(e, i))
}

// wantTake asks for a step that takes a free chunk for a class.
func wantTake(t *testing.T, e layout.Env, p *place.Place, class, i int) {
	t.Helper()
	w := wordOf(e, i)
	if stateOf(w) != free {
		t.Fatalf("chunk %d is not free", i)
	}
	wantOn(t, e, p, chunkAt(e.C, i), chunk(open, class, 0, stampOf(w)+1))
}

// wantGrown asks for the last two steps: the open chunk's word is loaded, and what is used of it grows.
func wantGrown(t *testing.T, e layout.Env, p *place.Place, class, i int) {
	t.Helper()
	wantLook(t, e, p, i)
	w := wordOf(e, i)
	grown := chunk(open, class, usedOf(w)+rooms[class], stampOf(w))
	wantStep(t, e, p, touch{chunkAt(e.C, i), grown}, true)
	wantSpot(t, p, api.Spot{Addr: baseAt(e.C, i) + usedOf(w), Chunk: i}, true)
}

// wantGot asks that somebody who begins now, and whom nobody disturbs, gets the next words of the open chunk in three steps.
func wantGot(t *testing.T, e layout.Env, class, i int) {
	t.Helper()
	p := place.New(class)
	wantSpot(t, p, api.Spot{}, false)
	wantSeen(t, e, p, class, i)
	wantGrown(t, e, p, class, i)
}

// wantOpened asks that somebody who begins now, and whom nobody disturbs, opens that chunk, in the place of the one that is open (-1: none), and gets its first words.
func wantOpened(t *testing.T, e layout.Env, class, was, i int) {
	t.Helper()
	p := place.New(class)
	wantSpot(t, p, api.Spot{}, false)
	wantSeen(t, e, p, class, was)
	if was >= 0 {
		wantLook(t, e, p, was)
	}
	for ahead := range i + 1 {
		wantLook(t, e, p, ahead)
	}
	wantTake(t, e, p, class, i)
	wantOn(t, e, p, openAt(class), uint64(i+1))
	// All begins anew.
	wantSeen(t, e, p, class, i)
	wantGrown(t, e, p, class, i)
}

// wantNone asks that somebody who begins now finds no room: the open chunk (-1: none) is asked, and each chunk looked at.
func wantNone(t *testing.T, e layout.Env, class, was int) {
	t.Helper()
	p := place.New(class)
	wantSeen(t, e, p, class, was)
	if was >= 0 {
		wantLook(t, e, p, was)
	}
	last := e.C.Chunks - 1
	for i := range last {
		wantLook(t, e, p, i)
	}
	wantStep(t, e, p, touch{chunkAt(e.C, last), wordOf(e, last)}, true)
	wantSpot(t, p, api.Spot{}, false)
}

func TestExampleOfTheChapter(t *testing.T) {
	for class := range rooms {
		e := entered(t, arena(4, 20), 0)
		p := place.New(class)
		for !p.Step(e) {
			wantSpot(t, p, api.Spot{}, false)
		}
		// Behind 13 words of the arena's and 3 of each chunk.
		wantSpot(t, p, api.Spot{Addr: 13 + 12, Chunk: 0}, true)
	}
}

func TestAloneInAFreshArena(t *testing.T) {
	for class, room := range rooms {
		e := filled(t, arena(3, 60), class)
		p := place.New(class)
		wantOn(t, e, p, openAt(class), 0)
		wantOn(t, e, p, chunkAt(e.C, 0), 0)
		wantOn(t, e, p, chunkAt(e.C, 0), chunk(open, class, 0, 1))
		wantOn(t, e, p, openAt(class), 1)
		wantOn(t, e, p, openAt(class), 1)
		wantOn(t, e, p, chunkAt(e.C, 0), chunk(open, class, 0, 1))
		wantStep(t, e, p, touch{chunkAt(e.C, 0), chunk(open, class, room, 1)}, true)
		wantSpot(t, p, api.Spot{Addr: baseAt(e.C, 0), Chunk: 0}, true)
	}
}

func TestWordsComeOneBehindTheOther(t *testing.T) {
	for class, room := range rooms {
		e := filled(t, arena(2, 100), 1)
		wantOpened(t, e, class, -1, 0)
		for used := room; used+room <= 100; used += room {
			wantGot(t, e, class, 0)
			wantChunk(t, e, 0, open, class, used+room, 1)
		}
		wantChunk(t, e, 1, free, 0, 0, 0)
	}
}

func TestChunksComeOneBehindTheOther(t *testing.T) {
	for class, room := range rooms {
		for words := api.LeastChunk; words <= 60; words++ {
			e := filled(t, arena(3, words), 2)
			was := -1
			for i := range 3 {
				wantOpened(t, e, class, was, i)
				for range words/room - 1 {
					wantGot(t, e, class, i)
				}
				// No word that has room is left, and no more is given out than there is.
				wantChunk(t, e, i, open, class, words/room*room, 1)
				was = i
			}
			wantNone(t, e, class, 2)
			wantNone(t, e, class, 2)
		}
	}
}

func TestTheGreatestArena(t *testing.T) {
	c := api.Config{Threads: api.MostThreads, Slots: 1, Chunks: api.MostChunks, Words: api.MostChunk, Gens: 9, Sparse: 600, Tries: 3}
	for class, room := range rooms {
		e := entered(t, c, 7)
		for i := range c.Chunks {
			for k := range c.Words / room {
				if s, is := gets(e, class); !is || s != (api.Spot{Addr: baseAt(c, i) + k*room, Chunk: i}) {
					t.Fatalf("class %d, chunk %d, words %d: %v, %v", class, i, k*room, s, is)
				}
			}
		}
		wantNone(t, e, class, c.Chunks-1)
	}
}

// gets is the words that somebody alone gets.
func gets(e layout.Env, class int) (api.Spot, bool) {
	p := place.New(class)
	for !p.Step(e) {
	}
	return p.Spot()
}

func TestTheLeastArena(t *testing.T) {
	for class, room := range rooms {
		e := filled(t, api.Config{Threads: 1, Slots: 1, Chunks: 1, Words: api.LeastChunk, Gens: 1, Tries: 1}, 0)
		wantOpened(t, e, class, -1, 0)
		for range api.LeastChunk/room - 1 {
			wantGot(t, e, class, 0)
		}
		wantNone(t, e, class, 0)
		for other := range rooms {
			if other != class {
				wantNone(t, e, other, -1)
			}
		}
	}
}

func TestEachClassHasChunksOfItsOwn(t *testing.T) {
	e := filled(t, arena(6, 20), 0)
	wantOpened(t, e, 2, -1, 0)
	wantOpened(t, e, 0, -1, 1)
	wantOpened(t, e, 3, -1, 2)
	wantOpened(t, e, 1, -1, 3)
	wantOpen(t, e, 1, 3, 0, 2)
	wantGot(t, e, 0, 1)
	wantGot(t, e, 2, 0)
	wantGot(t, e, 1, 3)
	// What one class lacks the other ones' chunks don't give.
	wantOpened(t, e, 3, 2, 4)
	wantOpened(t, e, 2, 0, 5)
	wantNone(t, e, 3, 4)
	wantOpen(t, e, 1, 3, 5, 4)
	wantGot(t, e, 0, 1)
	wantGot(t, e, 2, 5)
	wantNone(t, e, 2, 5)
	wantChunk(t, e, 0, open, 2, 18, 1)
	wantChunk(t, e, 1, open, 0, 9, 1)
	wantChunk(t, e, 2, open, 3, 17, 1)
	wantChunk(t, e, 3, open, 1, 10, 1)
	wantChunk(t, e, 4, open, 3, 17, 1)
	wantChunk(t, e, 5, open, 2, 18, 1)
}

func TestRoomToTheLastWord(t *testing.T) {
	for class, room := range rooms {
		for used := 40 - 2*room; used <= 42; used++ {
			e := filled(t, arena(2, 40), 1)
			e.M.Store(openAt(class), 1)
			lay(e, 0, chunk(open, class, used, 7))
			if used+room <= 40 {
				wantGot(t, e, class, 0)
				wantChunk(t, e, 0, open, class, used+room, 7)
			} else {
				wantOpened(t, e, class, 0, 1)
				wantChunk(t, e, 0, open, class, used, 7)
			}
		}
	}
}

func TestOpenChunksThatAreNotOpenAnyMore(t *testing.T) {
	for class := range rooms {
		for _, w := range []uint64{chunk(evac, class, 0, 4), chunk(quiet, class, 0, 4), chunk(evac, class, 17, 4), chunk(quiet, class, 17, 4), chunk(open, (class+1)%4, 0, 4), chunk(open, class+4, 0, 4), chunk(open, 63, 0, 4), chunk(open, class, 1<<20-1, 4)} {
			e := filled(t, arena(3, 40), 1)
			e.M.Store(openAt(class), 2)
			lay(e, 1, w)
			wantOpened(t, e, class, 1, 0)
			if wordOf(e, 1) != w {
				t.Error("the one that was open is changed")
			}
		}
	}
}

func TestTheOpenChunkIsFree(t *testing.T) {
	for class, room := range rooms {
		e := filled(t, arena(3, 40), 1)
		e.M.Store(openAt(class), 2)
		lay(e, 0, chunk(evac, 3, 17, 5))
		lay(e, 1, chunk(free, class, 0, 8))
		wantOpened(t, e, class, 1, 1)
		wantChunk(t, e, 1, open, class, room, 9)
	}
}

func TestTheFirstFreeChunkIsTaken(t *testing.T) {
	for class, room := range rooms {
		e := filled(t, arena(6, 40), 1)
		lay(e, 0, chunk(open, class, 5, 1))
		lay(e, 1, chunk(quiet, class, 5, 2))
		lay(e, 2, chunk(evac, class, 0, 3))
		// What a free one was is not seen, but for its Stamp.
		lay(e, 3, chunk(free, 3-class, 39, 77))
		wantOpened(t, e, class, -1, 3)
		wantChunk(t, e, 3, open, class, room, 78)
		wantChunk(t, e, 4, free, 0, 0, 0)
	}
}

func TestAChunkThatIsFreeAgainIsTakenAgain(t *testing.T) {
	e := filled(t, arena(2, 20), 1)
	for range 2 {
		gets(e, 3)
	}
	wantNone(t, e, 3, 1)
	for turn := range uint64(50) {
		lay(e, 0, chunk(free, 0, 0, 5*turn))
		wantOpened(t, e, 3, 1, 0)
		wantChunk(t, e, 0, open, 3, 17, 5*turn+1)
		wantNone(t, e, 3, 0)
		lay(e, 1, chunk(free, 3, 17, 7*turn))
		wantOpened(t, e, 3, 0, 1)
		wantChunk(t, e, 1, open, 3, 17, 7*turn+1)
		wantNone(t, e, 3, 1)
	}
}

func TestStampsGoOn(t *testing.T) {
	for _, n := range []uint64{0, 1, 1<<16 - 1, 1<<31 - 1, 1 << 31, 1<<32 - 1, 1 << 35, api.MostStamp - 1} {
		e := filled(t, arena(1, 20), 1)
		lay(e, 0, chunk(free, 0, 0, n))
		wantOpened(t, e, 0, -1, 0)
		wantChunk(t, e, 0, open, 0, 3, n+1)
		wantGot(t, e, 0, 0)
		wantChunk(t, e, 0, open, 0, 6, n+1)
	}
}

func TestStampsThatNothingIsBehind(t *testing.T) {
	// A Stamp has no more bits; the chunk is taken all the same.
	e := filled(t, arena(2, 20), 1)
	lay(e, 0, chunk(free, 0, 0, api.MostStamp))
	if s, is := gets(e, 1); !is || s != (api.Spot{Addr: baseAt(e.C, 0), Chunk: 0}) {
		t.Error(s, is)
	}
	wantChunk(t, e, 0, open, 1, 5, api.MostStamp)
}

func TestNoRoomHoweverOftenItIsTried(t *testing.T) {
	e := filled(t, arena(2, 20), 1)
	lay(e, 0, chunk(evac, 1, 5, 6))
	lay(e, 1, chunk(quiet, 2, 9, 7))
	for who := range 3 {
		e.Who = who
		for class := range rooms {
			wantNone(t, e, class, -1)
		}
	}
	// A chunk that is free again is found by who begins then.
	lay(e, 1, chunk(free, 0, 0, 8))
	wantOpened(t, e, 2, -1, 1)
	wantNone(t, e, 1, -1)
}

func TestWhatIsDoneStaysDone(t *testing.T) {
	e := filled(t, arena(1, 20), 0)
	p, in := place.New(0), place.New(1)
	for !p.Step(e) {
	}
	for !in.Step(e) {
	}
	wantGot(t, e, 0, 0)
	lay(e, 0, chunk(free, 0, 0, 9))
	now, last, l := e.Now(), e.M.Last(), words(e.M)
	for _, v := range []layout.Env{e, {}, {C: e.C}, {M: e.M}, e} {
		if !p.Step(v) || !in.Step(v) {
			t.Error("both were done")
		}
		wantSpot(t, p, api.Spot{Addr: baseAt(e.C, 0), Chunk: 0}, true)
		wantSpot(t, in, api.Spot{}, false)
	}
	if e.Now() != now || e.M.Last() != last || !slices.Equal(words(e.M), l) {
		t.Error("who is done does nothing any more", e.M.Last())
	}
}

func TestNobodyWantsWords(t *testing.T) {
	e := filled(t, arena(2, 20), 1)
	now, last, l := e.Now(), e.M.Last(), words(e.M)
	var p *place.Place
	for range 5 {
		if !p.Step(e) || !p.Step(layout.Env{}) {
			t.Error("a nil one has nothing to do")
		}
		wantSpot(t, p, api.Spot{}, false)
	}
	if e.Now() != now || e.M.Last() != last || !slices.Equal(words(e.M), l) {
		t.Error("a nil one touched", e.M.Last())
	}
}

func TestSpotIsTheCallersOwn(t *testing.T) {
	e := filled(t, arena(2, 20), 1)
	p := place.New(0)
	for !p.Step(e) {
	}
	s, _ := p.Spot()
	s.Addr, s.Chunk = 5, 6
	wantSpot(t, p, api.Spot{Addr: baseAt(e.C, 0), Chunk: 0}, true)
}

func TestSpotIsNoStep(t *testing.T) {
	e := filled(t, arena(2, 20), 1)
	p := place.New(0)
	for is := false; !is; is = p.Step(e) {
		now := e.Now()
		for range 5 {
			p.Spot()
		}
		if e.Now() != now {
			t.Error("Spot touched", e.M.Last())
		}
	}
}

func TestPlacesShareNothing(t *testing.T) {
	e := filled(t, arena(2, 20), 0)
	gets(e, 0)
	// A copy goes its own way.
	half := *place.New(0)
	half.Step(e)
	half.Step(e)
	other := half
	if !half.Step(e) || other.Step(e) {
		t.Error("one of both")
	}
	wantSpot(t, &half, api.Spot{Addr: baseAt(e.C, 0) + 3, Chunk: 0}, true)
	wantSpot(t, &other, api.Spot{}, false)
	for !other.Step(e) {
	}
	wantSpot(t, &other, api.Spot{Addr: baseAt(e.C, 0) + 6, Chunk: 0}, true)
	wantSpot(t, &half, api.Spot{Addr: baseAt(e.C, 0) + 3, Chunk: 0}, true)
	if place.New(1) == place.New(1) {
		t.Error("each is one of its own")
	}
}
