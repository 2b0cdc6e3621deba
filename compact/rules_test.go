package compact_test

import (
	"go/parser"
	"go/token"
	"math"
	"os"
	"slices"
	"strings"
	"testing"

	"footlocker/api"
	"footlocker/compact"
	"footlocker/layout"
	"footlocker/mem"
)

// odd is numbers of all kinds, most of which may not be.
func odd() []int {
	return []int{math.MinInt, math.MinInt + 1, -1 << 32, -65, -6, -5, -4, -3, -2, -1, 0, 1, 2, 3, 4, 5, 7, 8, 9, 16, 17, 63, 64, 65, 256, 257, 1 << 16, 1<<16 + 1, 1 << 20, 1 << 32, 1<<32 + 1, math.MaxInt / 3, math.MaxInt/2 - 4, math.MaxInt / 2, math.MaxInt - 7, math.MaxInt - 1, math.MaxInt}
}

func TestANilOne(t *testing.T) {
	var c *compact.Compactor
	e, _ := sparseOne(t, 2, false)
	wantNoStep(t, e, func() {
		for range 30 {
			for _, v := range []layout.Env{e, {}, {C: e.C}, {M: e.M}} {
				c.Step(v)
				if c.Work() != (api.Work{}) || c.Busy() || c.Idle() != 0 {
					t.Fatal(c.Work(), c.Busy(), c.Idle())
				}
			}
		}
	})
}

func TestNobodyMadeIt(t *testing.T) {
	// One that New did not make does as one that it made.
	e, x := sparseOne(t, 3, false)
	c := &compact.Compactor{}
	round(t, e, c)
	wantWork(t, c, 1, 0, 1, 1, 1)
	wantThere(t, e, x)
}

func TestEachOneIsItsOwn(t *testing.T) {
	// Two in two arenas know nothing of each other; nor do two that New made.
	a, b := compact.New(), compact.New()
	if a == nil || b == nil || a == b {
		t.Fatal("they are one")
	}
	e, _ := sparseOne(t, 3, false)
	f := entered(t, arena(2, 2, 20))
	for n := 1; a.Work().Rounds < 3; n++ {
		a.Step(e)
		if n%3 == 0 {
			b.Step(f)
		}
	}
	for b.Busy() {
		b.Step(f)
	}
	// From the second round on chunk 2 is tried, of which the first word is none of an object's; and a thread is pinned.
	wantWork(t, a, 1, 2, 1, 1, 3)
	wantWork(t, b, 0, 0, 0, 0, -1)
	if b.Idle() != b.Work().Rounds || b.Idle() == 0 {
		t.Fatal(b.Work(), b.Idle())
	}
}

func TestWhatIsToldIsTheCallersOwn(t *testing.T) {
	e, _ := sparseOne(t, 3, false)
	c := compact.New()
	round(t, e, c)
	was := c.Work()
	w := c.Work()
	w.Moved, w.Rounds = 99, 77
	if c.Work() != was {
		t.Fatal(c.Work())
	}
	round(t, e, c)
	if was != (api.Work{Evacuated: 1, Freed: 1, Moved: 1, Rounds: 1}) {
		t.Fatal(was)
	}
}

func TestWhoeverDoesIt(t *testing.T) {
	for _, who := range odd() {
		e, x := sparseOne(t, 5, true)
		e.Who = who
		c := compact.New()
		round(t, e, c)
		wantWork(t, c, 1, 0, 1, 1, 1)
		wantThere(t, e, x)
	}
	// Another one each time, too.
	e, x := sparseOne(t, 5, true)
	c := compact.New()
	for n := 0; c.Work().Rounds == 0; n++ {
		e.Who = odd()[n%len(odd())]
		step(t, e, c)
	}
	wantWork(t, c, 1, 0, 1, 1, 1)
	wantThere(t, e, x)
}

// maimed is arenas of which one or two things are such a number.
func maimed(n int) []api.Config {
	l := make([]api.Config, 10)
	for i := range l {
		l[i] = arena(4, 5, 80)
	}
	l[0].Threads = n
	l[1].Slots = n
	l[2].Chunks = n
	l[3].Words = n
	l[4].Gens = n
	l[5].Sparse = n
	l[6].Tries = n
	l[7].Threads, l[7].Chunks = n, n
	l[8].Slots, l[8].Words = n, n
	l[9].Chunks, l[9].Words = n, n
	return append(l, api.Config{}, api.Config{Threads: n}, api.Config{Chunks: n, Words: n})
}

// may is whether an arena may be, and stands in its memory.
func may(e layout.Env) bool {
	return layout.Check(e.C) && e.M.Len() >= layout.Len(e.C)
}

// wantNothing asks that nothing is done there, wherever the compactor is.
func wantNothing(t *testing.T, e layout.Env, c *compact.Compactor) {
	t.Helper()
	work, busy, idle := c.Work(), c.Busy(), c.Idle()
	wantNoStep(t, e, func() {
		for range 3 {
			c.Step(e)
		}
	})
	if c.Work() != work || c.Busy() != busy || c.Idle() != idle {
		t.Fatalf("%v: %+v, %v, %d; then %+v, %v, %d", e.C, work, busy, idle, c.Work(), c.Busy(), c.Idle())
	}
}

func TestArenasThatMayNotBe(t *testing.T) {
	one, _ := mem.New(1)
	e, x := sparseOne(t, 4, false)
	c := compact.New()
	for n := 0; c.Work().Rounds == 0; n++ {
		k := odd()[n%len(odd())]
		for _, a := range maimed(k) {
			for _, m := range []*mem.Mem{nil, {}, one, e.M} {
				if v := (layout.Env{C: a, M: m, Who: k}); !may(v) {
					wantNothing(t, v, c)
				}
			}
		}
		// Wherever it was, it goes on there.
		step(t, e, c)
	}
	wantWork(t, c, 1, 0, 1, 1, 1)
	wantThere(t, e, x)
}

func TestMemoriesOfEachLength(t *testing.T) {
	whole, x := sparseOne(t, 4, false)
	l := words(whole.M)
	for n := 1; n <= len(l)+3; n++ {
		m, _ := mem.New(n)
		for a := range min(n, len(l)) {
			m.Store(a, l[a])
		}
		e := layout.Env{C: whole.C, M: m, Who: 1}
		c := compact.New()
		if n < len(l) {
			wantNothing(t, e, c)
			continue
		}
		round(t, e, c)
		wantWork(t, c, 1, 0, 1, 1, 1)
		wantThere(t, e, x)
	}
}

// wantEnds asks that so many rounds end, wherever they are done, and that each step touches one word at most, by Who.
func wantEnds(t *testing.T, e layout.Env, c *compact.Compactor, n int) {
	t.Helper()
	was := c.Work()
	for most := n * mostSteps(e.C); c.Work().Rounds < was.Rounds+n; most-- {
		if most < 0 {
			t.Fatalf("%v: a round does not end", e.C)
		}
		now := e.Now()
		c.Step(e)
		if e.Now() > now+1 || e.Now() > now && e.M.Last().Who != e.Who {
			t.Fatalf("%d steps, the last one %v", e.Now()-now, e.M.Last())
		}
		// What the memory is may be anybody's; but no word beyond those that a chunk has is touched.
		if a := e.M.Last().Addr; e.Now() > now && (a < 0 || a >= layout.Len(e.C)) {
			t.Fatalf("word %d is touched", a)
		}
	}
	w := c.Work()
	if w.Evacuated < was.Evacuated || w.Left < was.Left || w.Freed < was.Freed || w.Moved < was.Moved || w.Evacuated+w.Left > w.Rounds {
		t.Fatalf("%+v, then %+v", was, w)
	}
}

// anyWord is a word of some kind.
func anyWord(x uint64) (uint64, uint64) {
	x = x*6364136223846793005 + 1442695040888963407
	w := x >> (x >> 58)
	x = x*6364136223846793005 + 1442695040888963407
	return w ^ x>>(x>>58), x
}

func TestAnyWords(t *testing.T) {
	t.Parallel()
	// In a memory that nobody laid so rounds end, too.
	x := uint64(5)
	for n := range 600 {
		a := arena(1+n%9, 1+n%7, 17+n%40)
		a.Sparse = 1000 - n%3*400
		e := entered(t, a)
		for at := range e.M.Len() {
			var w uint64
			w, x = anyWord(x)
			e.M.Store(at, w)
		}
		wantEnds(t, e, compact.New(), 4)
	}
}

func TestAnyWordsOfChunks(t *testing.T) {
	t.Parallel()
	// Any words as chunks' words, live words, open chunks and heads, of an arena in which objects live.
	x := uint64(11)
	var all api.Work
	for n := range 900 {
		e := entered(t, arena(12, 5, 40))
		gone, _ := split(population(t, e, uint64(n), 12), uint64(n), n%8)
		letGo(t, e, gone...)
		for i := n % 5; i < e.C.Chunks; i += 2 + n%3 {
			var w, kind uint64
			w, x = anyWord(x)
			kind, x = anyWord(x)
			switch kind % 7 {
			case 0:
				e.M.Store(chunkAt(e.C, i), w)
			case 1:
				// One that is open, of any class, and of any many words.
				e.M.Store(chunkAt(e.C, i), w&^3|open)
				e.M.Store(liveAt(e.C, i), 0)
			case 2:
				e.M.Store(liveAt(e.C, i), w)
			case 3:
				e.M.Store(openAt(i%4), w)
			case 4:
				e.M.Store(openAt(i%4), 0)
				e.M.Store(baseAt(e.C, i)+int(w%40), w)
			case 5:
				e.M.Store(chunkAt(e.C, i), chunkWord(open, int(w%4), int(w>>3%60), 1))
				e.M.Store(liveAt(e.C, i), w>>10%9)
			case 6:
				e.M.Store(sinceAt(e.C, i), w)
				e.M.Store(epochAt, kind)
			}
		}
		c := compact.New()
		wantEnds(t, e, c, 6)
		w := c.Work()
		all.Evacuated += w.Evacuated
		all.Left += w.Left
		all.Moved += w.Moved
	}
	if all.Evacuated < 100 || all.Left < 100 || all.Moved < 100 {
		t.Errorf("%+v", all)
	}
}

func TestHeadsOfAllKinds(t *testing.T) {
	t.Parallel()
	// Of any size, any slot, any life: a round ends, and no word is touched that was not given out, or that is another chunk's, but where copies are laid.
	for class := range 4 {
		for _, size := range []int{0, 1, 2, 3, 8, 15, 16, 17, 100, 1<<16 - 1} {
			for _, slot := range []int{0, 1, 2, 3, 4, 1000, 1<<16 - 1} {
				for _, gen := range []int{0, 1, 2, 1<<16 - 1} {
					for kind := range 4 {
						e := filled(t, arena(3, 3, 40))
						used := rooms[class] * (40 / rooms[class])
						layChunk(e, 0, chunkWord(open, class, used, 1), 0, 0)
						layChunk(e, 1, chunkWord(free, 0, 0, 1), 0, 0)
						layChunk(e, 2, chunkWord(free, 0, 0, 1), 0, 0)
						for at := 0; at < used; at += rooms[class] {
							e.M.Store(baseAt(e.C, 0)+at, head(dead, 1, 0, 1, false))
						}
						last := baseAt(e.C, 0) + used - rooms[class]
						e.M.Store(last, head(kind, size, slot, gen, false))
						e.M.Store(slotAt(e.C, 1), slotWord(live, last, 1, 0))
						e.M.Store(slotAt(e.C, 2), slotWord(live, last, 2, 0))
						c := compact.New()
						for c.Work().Rounds < 3 {
							now := e.Now()
							if c.Step(e); e.Now() > now {
								wantGiven(t, e)
							}
						}
					}
				}
			}
		}
	}
}

func TestSizesThatAreNone(t *testing.T) {
	// One that lives no more is passed over, whatever its size; for one that lives there is no room.
	for _, size := range []int{0, 17, 18, 39, 40, 100, 1<<16 - 1} {
		for _, gen := range []int{1, 2} {
			e := filled(t, arena(3, 2, 40))
			layChunk(e, 0, chunkWord(open, 1, 5, 1), 0, 0)
			layChunk(e, 1, chunkWord(free, 0, 0, 1), 0, 0)
			e.M.Store(baseAt(e.C, 0), head(ready, size, 2, gen, false))
			e.M.Store(slotAt(e.C, 2), slotWord(live, baseAt(e.C, 0), 1, 0))
			c := compact.New()
			wantSeen(t, e, c)
			wantTurned(t, e, c, 0, evac)
			wantLook(t, e, c, baseAt(e.C, 0))
			wantLook(t, e, c, slotAt(e.C, 2))
			if gen == 2 {
				wantQuiet(t, e, c, 0)
				continue
			}
			wantNoStep(t, e, func() { c.Step(e) })
			wantTurned(t, e, c, 0, open)
		}
	}
}

func TestSlotsThatAreNone(t *testing.T) {
	// Nobody lives by a slot that the arena has not: it is passed over, without a step.
	for _, s := range []int{3, 4, 100, 1<<16 - 1} {
		e := filled(t, arena(3, 2, 40))
		layChunk(e, 0, chunkWord(open, 1, 5, 1), 0, 0)
		layChunk(e, 1, chunkWord(free, 0, 0, 1), 0, 0)
		e.M.Store(baseAt(e.C, 0), head(ready, 3, s, 1, false))
		c := compact.New()
		wantSeen(t, e, c)
		wantTurned(t, e, c, 0, evac)
		wantLook(t, e, c, baseAt(e.C, 0))
		wantNoStep(t, e, func() { c.Step(e) })
		wantQuiet(t, e, c, 0)
	}
}

func TestAnObjectThatIsNotWholeIsNotMoved(t *testing.T) {
	// Its head was given out, but not all of its words: the chunk is left, and no word of the rest is touched.
	for size := 1; size <= api.MostSize; size++ {
		for less := 1; less <= size; less++ {
			e := filled(t, arena(3, 3, 40))
			layChunk(e, 0, chunkWord(open, classes[size], size+1-less, 1), 0, 0)
			layChunk(e, 1, chunkWord(free, 0, 0, 1), 0, 0)
			layChunk(e, 2, chunkWord(free, 0, 0, 1), 0, 0)
			x := thing{slot: 1, gen: 1, state: live, size: size, addr: baseAt(e.C, 0)}
			layObject(e, x)
			c := compact.New()
			wantSeen(t, e, c)
			wantTurned(t, e, c, 0, evac)
			wantLook(t, e, c, x.addr)
			wantTurned(t, e, c, 0, open)
			wantGoneOn(t, e, c)
			wantWork(t, c, 0, 1, 0, 0, 0)
		}
	}
}

func TestMoreWordsThanAChunkHas(t *testing.T) {
	// Beyond its end are another chunk's: they are not looked at.
	for class := range 4 {
		for _, used := range []int{41, 60, 80, 1000, 1<<20 - 1} {
			e := filled(t, arena(3, 3, 40))
			layChunk(e, 0, chunkWord(open, class, used, 1), 0, 0)
			layChunk(e, 1, chunkWord(open, class, 17, 1), 17, 0)
			layChunk(e, 2, chunkWord(free, 0, 0, 1), 0, 0)
			for at := 0; at < 40; at += rooms[class] {
				e.M.Store(baseAt(e.C, 0)+at, head(dead, 1, 0, 1, false))
			}
			c := compact.New()
			wantSeen(t, e, c)
			wantTurned(t, e, c, 0, evac)
			for at := 0; at < 40; at += rooms[class] {
				wantLook(t, e, c, baseAt(e.C, 0)+at)
			}
			wantQuiet(t, e, c, 0)
		}
	}
}

func TestAChunkOfNoClass(t *testing.T) {
	// Nobody knows where its objects stand: it is left.
	for _, class := range []int{4, 5, 17, 63} {
		for kind := range 4 {
			e := filled(t, arena(3, 2, 40))
			layChunk(e, 0, chunkWord(open, class, 30, 1), 0, 0)
			layChunk(e, 1, chunkWord(free, 0, 0, 1), 0, 0)
			e.M.Store(baseAt(e.C, 0), head(kind, 2, 0, 7, false))
			c := compact.New()
			for n := 1; n <= 3; n++ {
				round(t, e, c)
				wantWork(t, c, 0, n, 0, 0, n)
			}
			if w := e.M.Peek(chunkAt(e.C, 0)); w != chunkWord(open, class, 30, 7) {
				t.Fatalf("it is %#x", w)
			}
		}
	}
}

func TestLiveWordsOfAllKinds(t *testing.T) {
	// Below 0 they are fewer than none; however many they are, no sum wraps round.
	for _, n := range []uint64{1 << 63, 1<<64 - 1, 1<<63 - 1, 1 << 54, 1 << 62, 24, 23, 0} {
		e := filled(t, arena(3, 2, 40))
		layChunk(e, 0, chunkWord(open, 0, 39, 1), 3, 0)
		layChunk(e, 1, chunkWord(open, 0, 39, 1), 0, 0)
		e.M.Store(liveAt(e.C, 1), n)
		c := compact.New()
		wantSeen(t, e, c)
		chosen := 0
		if int64(n) < 3 {
			chosen = 1
		}
		wantTurned(t, e, c, chosen, evac)
	}
}

func TestOpenChunksOfAllKinds(t *testing.T) {
	// Numbers of chunks that the arena has not are none's.
	for _, n := range []uint64{0, 3, 4, 5, 64, 65, 1 << 32, 1<<32 + 1, 1 << 63, 1<<63 + 1, 1<<64 - 1} {
		e := filled(t, arena(3, 2, 40))
		layChunk(e, 0, chunkWord(open, 0, 39, 1), 3, 0)
		layChunk(e, 1, chunkWord(open, 0, 39, 1), 0, 0)
		for class := range 4 {
			e.M.Store(openAt(class), n)
		}
		c := compact.New()
		wantSeen(t, e, c)
		wantTurned(t, e, c, 1, evac)
	}
}

func TestAnEnvThatIsAnotherOneEachTime(t *testing.T) {
	t.Parallel()
	// Who changes the arena midway is answered all the same; and what was done is told.
	one, _ := mem.New(1)
	for ahead := range 120 {
		for k := range 12 {
			big, _ := sparseOne(t, 4, false)
			small := entered(t, arena(2, 1, 17))
			population(t, small, 3, 3)
			other := entered(t, arena(9, 30, 60))
			population(t, other, 5, 9)
			fewer, more, less, longer := big.C, big.C, big.C, big.C
			fewer.Chunks, more.Threads, less.Words, longer.Slots = 1, 8, 20, 3
			v := []layout.Env{
				{}, {C: big.C}, {M: big.M}, {C: big.C, M: one}, small, {C: small.C, M: big.M}, other, {C: small.C, M: other.M},
				{C: fewer, M: big.M}, {C: more, M: big.M}, {C: less, M: big.M}, {C: longer, M: big.M},
			}[k]
			c := compact.New()
			for range ahead {
				c.Step(big)
			}
			was := c.Work()
			if !may(v) {
				wantNothing(t, v, c)
			} else {
				wantEnds(t, v, c, 2)
			}
			for n := range 60 {
				c.Step([]layout.Env{v, big, small, other}[n%4])
			}
			wantEnds(t, big, c, 2)
			if w := c.Work(); w.Evacuated < was.Evacuated || w.Moved < was.Moved || w.Freed < was.Freed {
				t.Fatalf("%+v, then %+v", was, w)
			}
		}
	}
}

func TestAnArenaThatShrinks(t *testing.T) {
	// Chunks that it has no more are not touched, from whichever step on.
	for ahead := range 120 {
		e, _ := sparseOne(t, 4, false)
		c := compact.New()
		for range ahead {
			c.Step(e)
		}
		fewer := e
		fewer.C.Chunks = 1
		w := words(e.M)[chunkAt(e.C, 1):]
		rounds := c.Work().Rounds
		for most := 400; c.Work().Rounds < rounds+2; most-- {
			if most < 0 {
				t.Fatal("rounds do not end")
			}
			now := e.Now()
			c.Step(fewer)
			if a := e.M.Last().Addr; e.Now() > now && a >= layout.Len(fewer.C) {
				t.Fatalf("behind %d steps word %d is touched", ahead, a)
			}
		}
		// Of the words that are an arena's of one chunk's own, those behind the first chunk's words may be others.
		if l := words(e.M); !slices.Equal(l[layout.Len(fewer.C):], w[layout.Len(fewer.C)-chunkAt(e.C, 1):]) {
			t.Fatalf("behind %d steps words are others", ahead)
		}
	}
}

func TestAnArenaThatShrinksWhileItsChunksAreLookedAt(t *testing.T) {
	// Behind those that it has come the classes, at once.
	for ahead := 4; ahead < 10; ahead++ {
		e, _ := sparseOne(t, 4, false)
		c := compact.New()
		for range ahead {
			c.Step(e)
		}
		e.C.Chunks = 2
		for class := range 4 {
			wantLook(t, e, c, openAt(class))
		}
	}
}

func TestTheSameStepsTellTheSame(t *testing.T) {
	play := func() ([]told, api.Work, []uint64) {
		a := arena(12, 9, 40)
		c := newCrowd(t, a)
		x := uint64(3)
		for i := range 6000 {
			who := i * i % 101 % 6
			if who >= a.Threads {
				c.compact()
				continue
			}
			if !c.busy(who) {
				x = c.something(who, x, 9)
			}
			c.pick(who)
		}
		c.rest()
		return c.told, c.c.Work(), words(c.e.M)
	}
	l, work, w := play()
	if work.Moved == 0 || work.Freed == 0 {
		t.Errorf("%+v", work)
	}
	for range 4 {
		if k, again, v := play(); !slices.Equal(k, l) || again != work || !slices.Equal(v, w) {
			t.Error(work, again)
		}
	}
}

func TestStandsOnThoseBelowAlone(t *testing.T) {
	files, err := os.ReadDir(".")
	if err != nil {
		t.Fatal(err)
	}
	below := []string{
		`"footlocker/api"`, `"footlocker/epoch"`, `"footlocker/layout"`, `"footlocker/move"`, `"footlocker/policy"`, `"footlocker/word"`,
	}
	for _, f := range files {
		name := f.Name()
		if !strings.HasSuffix(name, ".go") || strings.HasSuffix(name, "_test.go") {
			continue
		}
		parsed, err := parser.ParseFile(token.NewFileSet(), name, nil, parser.ImportsOnly)
		if err != nil {
			t.Fatal(err)
		}
		for _, i := range parsed.Imports {
			if !slices.Contains(below, i.Path.Value) {
				t.Errorf("%s imports %s", name, i.Path.Value)
			}
		}
	}
}
