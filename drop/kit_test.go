package drop_test

import (
	"slices"
	"testing"

	"footlocker/api"
	"footlocker/drop"
	"footlocker/layout"
	"footlocker/mem"
)

// gens is how many lives a slot of the tests' arenas has.
const gens = 9

// arena is an arena of so many slots, and so many chunks of so many words.
func arena(slots, chunks, words int) api.Config {
	return api.Config{Threads: 3, Slots: slots, Chunks: chunks, Words: words, Gens: gens, Sparse: 600, Tries: 3}
}

// entered is somebody in a fresh arena.
func entered(t *testing.T, c api.Config, who int) layout.Env {
	t.Helper()
	m, e := layout.Fresh(c)
	if e != api.OK {
		t.Fatal(e)
	}
	return layout.Env{C: c, M: m, Who: who}
}

// filled is somebody in an arena of which no two words are the same, but for the slots' words and links: a word that is changed by mistake, or loaded in the place of another one, is seen.
func filled(t *testing.T, c api.Config, who int) layout.Env {
	t.Helper()
	e := entered(t, c, who)
	for a := range e.M.Len() {
		if a != topAt && (a < slotAt(c, 0) || a >= chunkAt(c, 0)) {
			e.M.Store(a, 1<<60+uint64(a))
		}
	}
	return e
}

// rooms is how many words each class takes: 2, 4, 8, 16, and one for the head.
var rooms = [...]int{3, 5, 9, 17}

// classes is the class of each size; 0 has none.
var classes = [...]int{-1, 0, 0, 1, 1, 2, 2, 2, 2, 3, 3, 3, 3, 3, 3, 3, 3}

// The first free slot's word stands behind the epoch.
const topAt = 1

// slotAt is where a slot's word stands, its link behind it: behind four open chunks, the pins, and the slots ahead of it.
func slotAt(c api.Config, s int) int {
	return 6 + c.Threads + 2*s
}

// chunkAt is where a chunk's word stands, how many of its words live behind it.
func chunkAt(c api.Config, i int) int {
	return slotAt(c, c.Slots) + 3*i
}

// baseAt is where a chunk's words stand.
func baseAt(c api.Config, i int) int {
	return chunkAt(c, c.Chunks) + c.Words*i
}

// States of a slot's word, and kinds of a head.
const (
	free     = 0
	live     = 1
	moving   = 2
	retired  = 3
	dropping = 4

	pending = 1
	ready   = 2
)

// top is the word of a first free slot (-1: none), and a count.
func top(s int, count uint64) uint64 { return uint64(s+1) | count<<17 }

// What such a word has.
func firstOf(w uint64) int    { return int(w&(1<<17-1)) - 1 }
func countOf(w uint64) uint64 { return w >> 17 }

// slotWord is a handle's word.
func slotWord(state, addr, gen, ver int) uint64 {
	return uint64(state) | uint64(addr)<<3 | uint64(gen)<<23 | uint64(ver)<<39
}

// What such a word has.
func stateOf(w uint64) int { return int(w & 7) }
func addrOf(w uint64) int  { return int(w >> 3 & (1<<20 - 1)) }
func genOf(w uint64) int   { return int(w >> 23 & (1<<16 - 1)) }
func verOf(w uint64) int   { return int(w >> 39 & (1<<22 - 1)) }

// head is an object's head.
func head(kind, size, s, gen int, own bool) uint64 {
	w := uint64(kind) | uint64(size)<<2 | uint64(s)<<18 | uint64(gen)<<34
	if own {
		w |= 1 << 50
	}
	return w
}

// What such a word has.
func sizeOf(w uint64) int { return int(w >> 2 & (1<<16 - 1)) }
func ownOf(w uint64) bool { return w>>50&1 != 0 }

// frozen is a cell that is frozen in a move of a version.
func frozen(value uint64, ver int) uint64 { return value | uint64(ver)<<40 | 1<<63 }

// valueOf is a cell's value.
func valueOf(w uint64) uint64 { return w & (1<<40 - 1) }

// handle is a handle as a number.
func handle(s, gen int) uint64 { return uint64(s) | uint64(gen)<<16 }

// behind is what a slot's word is behind a life.
func behind(c api.Config, gen int) uint64 {
	if gen >= c.Gens {
		return slotWord(retired, 0, gen, 0)
	}
	return slotWord(free, 0, gen+1, 0)
}

// words is a memory's words, without a step.
func words(m *mem.Mem) []uint64 {
	l := make([]uint64, m.Len())
	for a := range l {
		l[a] = m.Peek(a)
	}
	return l
}

// freeOnes is the free slots, the first one first, as the links tell them; a slot that comes twice ends them.
func freeOnes(e layout.Env) []int {
	var l []int
	for s := firstOf(e.M.Peek(topAt)); s >= 0; s = firstOf(e.M.Peek(slotAt(e.C, s) + 1)) {
		l = append(l, s)
		if len(l) > e.C.Slots {
			break
		}
	}
	return l
}

// wantFree asks which slots are free, the first one first.
func wantFree(t *testing.T, e layout.Env, want ...int) {
	t.Helper()
	if l := freeOnes(e); !slices.Equal(l, want) {
		t.Fatalf("free are %v, not %v", l, want)
	}
}

// thing is an object: what it is, and where it stands.
type thing struct {
	slot, gen, state, ver int
	size                  int
	own                   bool
	chunk, addr           int
}

// number is its handle as a number.
func (x thing) number() uint64 { return handle(x.slot, x.gen) }

// word is its slot's word.
func (x thing) word() uint64 { return slotWord(x.state, x.addr, x.gen, x.ver) }

// marked is its slot's word, when it is let go.
func (x thing) marked() uint64 { return slotWord(dropping, x.addr, x.gen, x.ver+1) }

// room is how many words it takes.
func (x thing) room() int { return rooms[classes[x.size]] }

// value is that of one of its words.
func (x thing) value(k int) uint64 { return uint64(x.slot*1000+k) + 1<<39 }

// lay lays objects into an arena, each into the words that are its own, and lets just the other slots be free.
func lay(e layout.Env, l ...thing) {
	for _, x := range l {
		e.M.Store(slotAt(e.C, x.slot), x.word())
		e.M.Store(x.addr, head(ready, x.size, x.slot, x.gen, x.own))
		for k := range x.size {
			e.M.Store(x.addr+1+k, x.value(k))
		}
	}
	relink(e)
}

// relink links those slots whose words are free, the first one first.
func relink(e layout.Env) {
	next := -1
	for s := e.C.Slots - 1; s >= 0; s-- {
		if stateOf(e.M.Peek(slotAt(e.C, s))) == free {
			e.M.Store(slotAt(e.C, s)+1, top(next, 0))
			next = s
		}
	}
	e.M.Store(topAt, top(next, 5))
}

// object is one of a size, in slot 1, in its third life, within chunk 1.
func object(c api.Config, size int, own bool) thing {
	return thing{slot: 1, gen: 3, state: live, size: size, own: own, chunk: 1, addr: baseAt(c, 1) + 2}
}

// placed is somebody in an arena in which that object is.
func placed(t *testing.T, size int, own bool) (layout.Env, thing) {
	t.Helper()
	e := filled(t, arena(4, 3, 40), 2)
	x := object(e.C, size, own)
	lay(e, x)
	return e, x
}

// elsewhere is the same arena, in which somebody else works.
func elsewhere(e layout.Env) layout.Env {
	e.Who = 1
	return e
}

// stepper is whoever does steps.
type stepper interface{ Step(e layout.Env) bool }

// wantStep does one step and asks that it touches that word alone, by Who, behind which it is w, changes no other, and tells whether it is done.
func wantStep(t *testing.T, e layout.Env, s stepper, addr int, w uint64, done bool) {
	t.Helper()
	now := e.Now()
	l := words(e.M)
	changed := l[addr] != w
	l[addr] = w
	// Somebody else did what was done ahead of it.
	e.M.By(e.Who + 1)
	if got := s.Step(e); got != done {
		t.Fatalf("by %d at word %d: done is %v, not %v", e.Who, addr, got, done)
	}
	if e.Now() != now+1 {
		t.Fatalf("by %d at word %d: %d steps, not one", e.Who, addr, e.Now()-now)
	}
	if last := (api.Touch{Addr: addr, Who: e.Who, Changed: changed}); e.M.Last() != last {
		t.Fatalf("noted is %v, not %v", e.M.Last(), last)
	}
	for a, w := range words(e.M) {
		if w != l[a] {
			t.Fatalf("by %d at word %d: word %d is %#x, not %#x", e.Who, addr, a, w, l[a])
		}
	}
}

// wantNoStep asks that what is done touches nothing.
func wantNoStep(t *testing.T, e layout.Env, do func()) {
	t.Helper()
	now, last, l := e.Now(), e.M.Last(), words(e.M)
	do()
	if e.Now() != now || e.M.Last() != last || !slices.Equal(words(e.M), l) {
		t.Fatalf("touched was %v", e.M.Last())
	}
}

// wantDone asks what it came to.
func wantDone(t *testing.T, d *drop.Drop, want api.Done) {
	t.Helper()
	if got := d.Done(); got != want {
		t.Fatalf("it came to %v, not %v", got, want)
	}
}

// wantOn asks for a step behind which it is not done, and tells nothing.
func wantOn(t *testing.T, e layout.Env, s stepper, addr int, w uint64) {
	t.Helper()
	wantStep(t, e, s, addr, w, false)
	switch s := s.(type) {
	case *drop.Drop:
		wantDone(t, s, api.Done{})
	case *drop.Help:
		if s.Won() {
			t.Fatal("it is not done, and so did not end it")
		}
	}
}

// wantLook asks for a step that loads a word, or that changes it in vain.
func wantLook(t *testing.T, e layout.Env, s stepper, addr int) {
	t.Helper()
	wantOn(t, e, s, addr, e.M.Peek(addr))
}

// wantSeen asks for the steps by which an object is seen: its slot's word, its head.
func wantSeen(t *testing.T, e layout.Env, s stepper, x thing) {
	t.Helper()
	wantLook(t, e, s, slotAt(e.C, x.slot))
	wantLook(t, e, s, x.addr)
}

// wantMarked asks for the steps by which an object is seen, and marked.
func wantMarked(t *testing.T, e layout.Env, s stepper, x thing) {
	t.Helper()
	wantSeen(t, e, s, x)
	wantOn(t, e, s, slotAt(e.C, x.slot), x.marked())
}

// wantFrozen asks for the steps by which cells are frozen, from one of them on.
func wantFrozen(t *testing.T, e layout.Env, s stepper, x thing, from, ver int) {
	t.Helper()
	for k := from; k < x.size; k++ {
		a := x.addr + 1 + k
		w := frozen(valueOf(e.M.Peek(a)), ver)
		already := e.M.Peek(a) == w
		wantLook(t, e, s, a)
		if !already {
			wantOn(t, e, s, a, w)
		}
	}
}

// wantEnded asks for the step by which its life is over: which one that is.
func wantEnded(t *testing.T, e layout.Env, d *drop.Drop, x thing) int {
	t.Helper()
	wantOn(t, e, d, slotAt(e.C, x.slot), behind(e.C, x.gen))
	return e.Now()
}

// wantGiven asks for the last steps: its words live no more, its slot is given back, if it has lives left; and what it came to.
func wantGiven(t *testing.T, e layout.Env, d *drop.Drop, x thing, stamp int) {
	t.Helper()
	at := chunkAt(e.C, x.chunk) + 1
	lives := e.M.Peek(at) - uint64(x.room())
	if x.gen >= e.C.Gens {
		wantStep(t, e, d, at, lives, true)
	} else {
		wantOn(t, e, d, at, lives)
		w := e.M.Peek(topAt)
		wantLook(t, e, d, topAt)
		wantOn(t, e, d, slotAt(e.C, x.slot)+1, top(firstOf(w), 0))
		wantStep(t, e, d, topAt, top(x.slot, countOf(w)+1), true)
	}
	wantDone(t, d, api.Done{Stamp: stamp})
}

// wantDropped asks that somebody who begins now, and whom nobody disturbs, lets an object go, step by step.
func wantDropped(t *testing.T, e layout.Env, x thing) {
	t.Helper()
	d := drop.New(x.number(), x.own)
	wantDone(t, d, api.Done{})
	wantMarked(t, e, d, x)
	wantFrozen(t, e, d, x, 0, x.ver+1)
	wantGiven(t, e, d, x, wantEnded(t, e, d, x))
}

// wantNone asks that by a number no object lives, as its slot's word tells, or, without a step, the number itself.
func wantNone(t *testing.T, e layout.Env, number uint64, own bool) {
	t.Helper()
	d := drop.New(number, own)
	wantNoStep(t, e, func() { wantDone(t, d, api.Done{}) })
	s := int(number & (1<<16 - 1))
	if number>>32 != 0 || number>>16 == 0 || s >= e.C.Slots {
		wantNoStep(t, e, func() {
			if !d.Step(e) {
				t.Fatalf("%#x is no handle", number)
			}
		})
	} else {
		at := slotAt(e.C, s)
		wantStep(t, e, d, at, e.M.Peek(at), true)
	}
	wantDone(t, d, api.Done{E: api.ErrInvalid, Stamp: e.Now()})
}

// wantNotOwn asks that an object is not let go by one who says otherwise of whether it is Own.
func wantNotOwn(t *testing.T, e layout.Env, x thing) {
	t.Helper()
	d := drop.New(x.number(), !x.own)
	wantLook(t, e, d, slotAt(e.C, x.slot))
	wantStep(t, e, d, x.addr, e.M.Peek(x.addr), true)
	wantDone(t, d, api.Done{E: api.ErrInvalid, Stamp: e.Now()})
}

// dropped is what it came to for one who is alone, and how many steps that took.
func dropped(e layout.Env, number uint64, own bool) (api.Done, int) {
	d := drop.New(number, own)
	now := e.Now()
	for !d.Step(e) {
	}
	return d.Done(), e.Now() - now
}
