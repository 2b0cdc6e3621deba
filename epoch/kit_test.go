package epoch_test

import (
	"math"
	"slices"
	"testing"

	"footlocker/api"
	"footlocker/epoch"
	"footlocker/layout"
	"footlocker/mem"
)

// all is the greatest word.
const all = ^uint64(0)

// grace is how many epochs behind its evacuation a chunk is free.
const grace = 2

// slots is how many slots the tests' arenas have.
const slots = 3

// arena is an arena of so many threads, and so many chunks of so many words.
func arena(threads, chunks, words int) api.Config {
	return api.Config{Threads: threads, Slots: slots, Chunks: chunks, Words: words, Gens: 9, Sparse: 600, Tries: 3}
}

// entered is somebody in a fresh arena.
func entered(t *testing.T, c api.Config, who int) layout.Env {
	t.Helper()
	m, e := layout.Fresh(c)
	if e != api.OK {
		t.Fatal(e)
	}
	return layout.Env{C: c, M: m, Who: who}
}

// filled is somebody in an arena of which no two words are the same, but for the epoch and the pins, of which none is laid: a word that is changed by mistake, or loaded in the place of another one, is seen.
func filled(t *testing.T, c api.Config, now uint64) layout.Env {
	t.Helper()
	e := entered(t, c, api.Compactor)
	for a := pinAt(c.Threads); a < e.M.Len(); a++ {
		e.M.Store(a, 1<<50+uint64(a))
	}
	e.M.Store(epochAt, now)
	return e
}

// epochAt is where the epoch stands: first of all.
const epochAt = 0

// pinAt is where a thread's pin stands: behind the epoch, the first free slot and four open chunks.
func pinAt(thread int) int { return 6 + thread }

// chunkAt is where a chunk's word stands: behind the pins, and two words of each slot.
func chunkAt(c api.Config, i int) int {
	return pinAt(c.Threads) + 2*c.Slots + 3*i
}

// liveAt is where it stands how many of its words live; sinceAt, in which epoch it was evacuated.
func liveAt(c api.Config, i int) int  { return chunkAt(c, i) + 1 }
func sinceAt(c api.Config, i int) int { return chunkAt(c, i) + 2 }

// baseAt is where a chunk's words stand.
func baseAt(c api.Config, i int) int {
	return chunkAt(c, c.Chunks) + c.Words*i
}

// States of a chunk's word.
const (
	free  = 0
	open  = 1
	evac  = 2
	quiet = 3
)

// chunk is a chunk's word.
func chunk(state, class, used int, stamp uint64) uint64 {
	return uint64(state) | uint64(class)<<2 | uint64(used)<<8 | stamp<<28
}

// What such a word has.
func stateOf(w uint64) int    { return int(w & 3) }
func usedOf(w uint64) int     { return int(w >> 8 & (1<<20 - 1)) }
func stampOf(w uint64) uint64 { return w >> 28 }

// wordOf is a chunk's word, without a step.
func wordOf(e layout.Env, i int) uint64 {
	return e.M.Peek(chunkAt(e.C, i))
}

// lay lays a chunk's word, and the epoch in which it was evacuated.
func lay(e layout.Env, i int, w, since uint64) {
	e.M.Store(chunkAt(e.C, i), w)
	e.M.Store(sinceAt(e.C, i), since)
}

// words is a memory's words, without a step.
func words(m *mem.Mem) []uint64 {
	l := make([]uint64, m.Len())
	for a := range l {
		l[a] = m.Peek(a)
	}
	return l
}

// epochs is epochs of all kinds; behind the last one it wraps round.
func epochs() []uint64 {
	return []uint64{0, 1, 2, 3, 1000, 1<<31 - 1, 1 << 36, 1<<63 - 2, 1<<63 - 1, 1 << 63, all - 2, all - 1, all}
}

// odd is numbers of all kinds, most of which may not be.
func odd() []int {
	return []int{math.MinInt, math.MinInt + 1, -1 << 32, -65, -6, -5, -4, -3, -2, -1, 0, 1, 2, 3, 4, 5, 7, 8, 9, 16, 17, 63, 64, 65, 256, 257, 1 << 16, 1<<16 + 1, 1 << 20, 1 << 32, 1<<32 + 1, math.MaxInt / 3, math.MaxInt/2 - 4, math.MaxInt / 2, math.MaxInt - 7, math.MaxInt - 1, math.MaxInt}
}

// mixed is a number below n, and the next state of what it is mixed from.
func mixed(x uint64, n int) (int, uint64) {
	x = x*6364136223846793005 + 1442695040888963407
	return int(x >> 33 % uint64(n)), x
}

// touch is what one step must do: to which word it is done, and what that word is behind it.
type touch struct {
	addr int
	w    uint64
}

// doer is whoever does steps, and tells in the end whether it came to something.
type doer interface {
	Step(e layout.Env) bool
	came() bool
}

// goer is one that lets the epoch go on; settler is one that settles a chunk.
type (
	goer    struct{ *epoch.Advance }
	settler struct{ *epoch.Settle }
)

func (g goer) came() bool    { return g.Went() }
func (s settler) came() bool { return s.Freed() }

func newGoer() goer                  { return goer{&epoch.Advance{}} }
func newSettler(i int) settler       { return settler{epoch.NewSettle(i)} }
func look(e layout.Env, a int) touch { return touch{a, e.M.Peek(a)} }

// wantStep does one step and asks that it touches that word alone, by Who, changes no other, and tells whether it is done, and to what it came.
func wantStep(t *testing.T, e layout.Env, d doer, want touch, done, came bool) {
	t.Helper()
	now := e.Now()
	l := words(e.M)
	changed := l[want.addr] != want.w
	l[want.addr] = want.w
	if d.came() {
		t.Fatalf("ahead of a step at word %d it came to something", want.addr)
	}
	// Somebody else did what was done ahead of it.
	e.M.By(e.Who + 1)
	if got := d.Step(e); got != done {
		t.Fatalf("at word %d: done is %v, not %v", want.addr, got, done)
	}
	if e.Now() != now+1 {
		t.Fatalf("at word %d: %d steps, not one", want.addr, e.Now()-now)
	}
	if last := (api.Touch{Addr: want.addr, Who: e.Who, Changed: changed}); e.M.Last() != last {
		t.Fatalf("noted is %v, not %v", e.M.Last(), last)
	}
	for a, w := range words(e.M) {
		if w != l[a] {
			t.Fatalf("at word %d: word %d is %#x, not %#x", want.addr, a, w, l[a])
		}
	}
	if d.came() != came {
		t.Fatalf("at word %d: it came to %v, not %v", want.addr, d.came(), came)
	}
}

// wantOn asks for a step behind which it is not done.
func wantOn(t *testing.T, e layout.Env, d doer, want touch) {
	t.Helper()
	wantStep(t, e, d, want, false, false)
}

// wantLook asks for a step that loads a word, and is not the last one.
func wantLook(t *testing.T, e layout.Env, d doer, addr int) {
	t.Helper()
	wantOn(t, e, d, look(e, addr))
}

// wantVain asks for the last step, by which a word is loaded, or exchanged in vain.
func wantVain(t *testing.T, e layout.Env, d doer, addr int) {
	t.Helper()
	wantStep(t, e, d, look(e, addr), true, false)
}

// wantNoStep asks that what is done touches nothing.
func wantNoStep(t *testing.T, e layout.Env, do func()) {
	t.Helper()
	now, last, l := e.Now(), e.M.Last(), words(e.M)
	do()
	if e.Now() != now || e.M.Last() != last || !slices.Equal(words(e.M), l) {
		t.Fatalf("%v: touched was %v", e.C, e.M.Last())
	}
}

// wantAtOnce asks that somebody is done at once, without a step, and comes to nothing.
func wantAtOnce(t *testing.T, e layout.Env, d doer) {
	t.Helper()
	wantNoStep(t, e, func() {
		for range 3 {
			if d.came() {
				t.Fatalf("%v: it came to something", e.C)
			}
			if !d.Step(e) {
				t.Fatalf("%v: there is nothing to do", e.C)
			}
		}
		if d.came() {
			t.Fatalf("%v: it came to something", e.C)
		}
	})
}

// wantOver asks that one that is done stays done, and does nothing any more.
func wantOver(t *testing.T, e layout.Env, d doer) {
	t.Helper()
	came := d.came()
	for _, v := range []layout.Env{e, {}, {C: e.C}, {M: e.M}} {
		wantNoStep(t, e, func() {
			for range 2 {
				if !d.Step(v) || d.came() != came {
					t.Fatalf("it was done, and came to %v; now %v", came, d.came())
				}
			}
		})
	}
}

// wantEnd asks that one whom nobody disturbs is done behind as many steps as there are, at most, wherever it works: to what it came.
func wantEnd(t *testing.T, e layout.Env, d doer) bool {
	t.Helper()
	for most := 5 + max(api.MostThreads, api.MostChunk); !d.Step(e); most-- {
		if most <= 0 {
			t.Fatalf("%v: not done", e.C)
		}
		if d.came() {
			t.Fatalf("%v: it came to something ahead of the end", e.C)
		}
	}
	return d.came()
}
