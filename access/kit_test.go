package access_test

import (
	"slices"
	"testing"

	"footlocker/access"
	"footlocker/api"
	"footlocker/layout"
	"footlocker/mem"
)

// gens is how many lives a slot of the tests' arenas has.
const gens = 9

// arena is an arena of so many slots, and so many chunks of so many words.
func arena(slots, chunks, words int) api.Config {
	return api.Config{Threads: 3, Slots: slots, Chunks: chunks, Words: words, Gens: gens, Sparse: 600, Tries: 3}
}

// entered is somebody in a fresh arena.
func entered(t *testing.T, c api.Config, who int) layout.Env {
	t.Helper()
	m, e := layout.Fresh(c)
	if e != api.OK {
		t.Fatal(e)
	}
	return layout.Env{C: c, M: m, Who: who}
}

// filled is somebody in an arena of which no two words are the same, but for the slots' words and links: a word that is changed by mistake, or loaded in the place of another one, is seen.
func filled(t *testing.T, c api.Config, who int) layout.Env {
	t.Helper()
	e := entered(t, c, who)
	for a := range e.M.Len() {
		if a < slotAt(c, 0) || a >= chunkAt(c, 0) {
			e.M.Store(a, 1<<60+uint64(a))
		}
	}
	return e
}

// rooms is how many words each class takes: 2, 4, 8, 16, and one for the head.
var rooms = [...]int{3, 5, 9, 17}

// classes is the class of each size; 0 has none.
var classes = [...]int{-1, 0, 0, 1, 1, 2, 2, 2, 2, 3, 3, 3, 3, 3, 3, 3, 3}

// slotAt is where a slot's word stands, its link behind it: behind four open chunks, the pins, and the slots ahead of it.
func slotAt(c api.Config, s int) int {
	return 6 + c.Threads + 2*s
}

// chunkAt is where a chunk's word stands, how many of its words live behind it.
func chunkAt(c api.Config, i int) int {
	return slotAt(c, c.Slots) + 3*i
}

// baseAt is where a chunk's words stand.
func baseAt(c api.Config, i int) int {
	return chunkAt(c, c.Chunks) + c.Words*i
}

// chunkOf is the chunk in which a word is.
func chunkOf(c api.Config, addr int) int {
	return (addr - baseAt(c, 0)) / c.Words
}

// States of a slot's word, and kinds of a head.
const (
	free     = 0
	live     = 1
	moving   = 2
	retired  = 3
	dropping = 4

	pending = 1
	ready   = 2
	dead    = 3
)

// What is done.
const (
	reading    = 1
	writing    = 2
	exchanging = 3
)

// slotWord is a handle's word.
func slotWord(state, addr, gen, ver int) uint64 {
	return uint64(state) | uint64(addr)<<3 | uint64(gen)<<23 | uint64(ver)<<39
}

// What such a word has.
func stateOf(w uint64) int { return int(w & 7) }
func addrOf(w uint64) int  { return int(w >> 3 & (1<<20 - 1)) }
func genOf(w uint64) int   { return int(w >> 23 & (1<<16 - 1)) }
func verOf(w uint64) int   { return int(w >> 39 & (1<<22 - 1)) }

// lives is whether an object lives by such a word, in a life of its slot.
func lives(w uint64, gen int) bool {
	s := stateOf(w)
	return (s == live || s == moving || s == dropping) && genOf(w) == gen
}

// head is an object's head.
func head(kind, size, s, gen int, own bool) uint64 {
	w := uint64(kind) | uint64(size)<<2 | uint64(s)<<18 | uint64(gen)<<34
	if own {
		w |= 1 << 50
	}
	return w
}

// What such a word has.
func sizeOf(w uint64) int { return int(w >> 2 & (1<<16 - 1)) }
func ownOf(w uint64) bool { return w>>50&1 != 0 }

// frozen is a cell that is frozen in a move of a version.
func frozen(value uint64, ver int) uint64 { return value | uint64(ver)<<40 | 1<<63 }

// What a cell has; the version is -1, if it is not frozen.
func valueOf(w uint64) int { return int(w & (1<<40 - 1)) }
func frozenIn(w uint64) int {
	if w>>63 == 0 {
		return -1
	}
	return int(w >> 40 & (1<<22 - 1))
}

// handle is a handle as a number.
func handle(s, gen int) uint64 { return uint64(s) | uint64(gen)<<16 }

// words is a memory's words, without a step.
func words(m *mem.Mem) []uint64 {
	l := make([]uint64, m.Len())
	for a := range l {
		l[a] = m.Peek(a)
	}
	return l
}

// thing is an object: what it is, and where it stands.
type thing struct {
	slot, gen, state, ver int
	size                  int
	own                   bool
	addr                  int
}

// number is its handle as a number.
func (x thing) number() uint64 { return handle(x.slot, x.gen) }

// word is its slot's word.
func (x thing) word() uint64 { return slotWord(x.state, x.addr, x.gen, x.ver) }

// value is that of one of its words, as it is laid.
func (x thing) value(k int) int { return x.slot*1000 + k + 1<<39 }

// at is where one of its words stands.
func (x thing) at(k int) int { return x.addr + 1 + k }

// read, write and exchange is what is done to one of its words.
func (x thing) read(k int) api.Want {
	return api.Want{Kind: reading, Handle: x.number(), Index: k}
}

func (x thing) write(k, value int) api.Want {
	return api.Want{Kind: writing, Handle: x.number(), Index: k, Value: value}
}

func (x thing) exchange(k, old, value int) api.Want {
	return api.Want{Kind: exchanging, Handle: x.number(), Index: k, Value: value, Old: old}
}

// all is one of each, of which the exchange finds what it must, and one that does not.
func (x thing) all(k int) []api.Want {
	return []api.Want{x.read(k), x.write(k, 77), x.exchange(k, x.value(k), 78), x.exchange(k, 5, 79)}
}

// lay lays objects into an arena, each into the words that are its own.
func lay(e layout.Env, l ...thing) {
	for _, x := range l {
		e.M.Store(slotAt(e.C, x.slot), x.word())
		e.M.Store(x.addr, head(ready, x.size, x.slot, x.gen, x.own))
		for k := range x.size {
			e.M.Store(x.at(k), uint64(x.value(k)))
		}
	}
}

// object is one of a size, in slot 1, in its third life, within chunk 1.
func object(c api.Config, size int, own bool) thing {
	return thing{slot: 1, gen: 3, state: live, size: size, own: own, addr: baseAt(c, 1) + 2}
}

// placed is somebody in an arena in which that object is.
func placed(t *testing.T, size int, own bool) (layout.Env, thing) {
	t.Helper()
	e := filled(t, arena(4, 3, 40), 2)
	x := object(e.C, size, own)
	lay(e, x)
	return e, x
}

// standing is the same, of which the slot's word is in that state, of that version.
func standing(t *testing.T, size, state, ver int) (layout.Env, thing) {
	t.Helper()
	e, x := placed(t, size, false)
	x.state, x.ver = state, ver
	e.M.Store(slotAt(e.C, 1), x.word())
	return e, x
}

// elsewhere is the same arena, in which somebody else works.
func elsewhere(e layout.Env) layout.Env {
	e.Who = 1
	return e
}

// stepper is whoever does steps.
type stepper interface{ Step(e layout.Env) bool }

// wantStep does one step and asks that it touches that word alone, by Who, behind which it is w, changes no other, and tells whether it is done.
func wantStep(t *testing.T, e layout.Env, s stepper, addr int, w uint64, done bool) {
	t.Helper()
	now := e.Now()
	l := words(e.M)
	changed := l[addr] != w
	l[addr] = w
	// Somebody else did what was done ahead of it.
	e.M.By(e.Who + 1)
	if got := s.Step(e); got != done {
		t.Fatalf("by %d at word %d: done is %v, not %v", e.Who, addr, got, done)
	}
	if e.Now() != now+1 {
		t.Fatalf("by %d at word %d: %d steps, not one", e.Who, addr, e.Now()-now)
	}
	if last := (api.Touch{Addr: addr, Who: e.Who, Changed: changed}); e.M.Last() != last {
		t.Fatalf("noted is %v, not %v", e.M.Last(), last)
	}
	for a, w := range words(e.M) {
		if w != l[a] {
			t.Fatalf("by %d at word %d: word %d is %#x, not %#x", e.Who, addr, a, w, l[a])
		}
	}
}

// wantNoStep asks that what is done touches nothing.
func wantNoStep(t *testing.T, e layout.Env, do func()) {
	t.Helper()
	now, last, l := e.Now(), e.M.Last(), words(e.M)
	do()
	if e.Now() != now || e.M.Last() != last || !slices.Equal(words(e.M), l) {
		t.Fatalf("touched was %v", e.M.Last())
	}
}

// wantDone asks what it came to.
func wantDone(t *testing.T, a *access.Access, want api.Done) {
	t.Helper()
	if got := a.Done(); got != want {
		t.Fatalf("it came to %v, not %v", got, want)
	}
}

// wantOn asks for a step behind which it is not done, and tells nothing.
func wantOn(t *testing.T, e layout.Env, a *access.Access, addr int, w uint64) {
	t.Helper()
	wantStep(t, e, a, addr, w, false)
	wantDone(t, a, api.Done{})
}

// wantLook asks for a step that loads a word, or that changes it in vain.
func wantLook(t *testing.T, e layout.Env, a *access.Access, addr int) {
	t.Helper()
	wantOn(t, e, a, addr, e.M.Peek(addr))
}

// wantSeen asks for the steps by which an object is seen: its slot's word, its head.
func wantSeen(t *testing.T, e layout.Env, a *access.Access, x thing) {
	t.Helper()
	wantLook(t, e, a, slotAt(e.C, x.slot))
	wantLook(t, e, a, x.addr)
}

// wantLoaded asks for those, and for the one by which one of its words is loaded: which one that is.
func wantLoaded(t *testing.T, e layout.Env, a *access.Access, x thing, k int) int {
	t.Helper()
	wantSeen(t, e, a, x)
	wantLook(t, e, a, x.at(k))
	return e.Now()
}

// wantChecked asks for the step by which the slot's word is loaded once more, and then for what it came to.
func wantChecked(t *testing.T, e layout.Env, a *access.Access, s int, want api.Done) {
	t.Helper()
	at := slotAt(e.C, s)
	wantStep(t, e, a, at, e.M.Peek(at), true)
	wantDone(t, a, want)
}

// wantLaid asks for the step by which a value is laid, and what it came to: the value that was there.
func wantLaid(t *testing.T, e layout.Env, a *access.Access, at, value int) {
	t.Helper()
	was := valueOf(e.M.Peek(at))
	wantStep(t, e, a, at, uint64(value), true)
	wantDone(t, a, api.Done{Value: was, Stamp: e.Now()})
}

// wantGone asks for the step by which it is seen that the object lives no more.
func wantGone(t *testing.T, e layout.Env, a *access.Access, s int) {
	t.Helper()
	wantChecked(t, e, a, s, api.Done{E: api.ErrInvalid, Stamp: e.Now() + 1})
}

// wantFrozen asks for the steps by which cells are frozen, from the first one on.
func wantFrozen(t *testing.T, e layout.Env, a *access.Access, x thing) {
	t.Helper()
	for k := range x.size {
		w := e.M.Peek(x.at(k))
		wantLook(t, e, a, x.at(k))
		if frozenIn(w) != x.ver {
			wantOn(t, e, a, x.at(k), frozen(uint64(valueOf(w)), x.ver))
		}
	}
}

// wantHelped asks for the steps by which it is helped that an object is let go.
func wantHelped(t *testing.T, e layout.Env, a *access.Access, x thing) {
	t.Helper()
	wantFrozen(t, e, a, x)
	wantOn(t, e, a, slotAt(e.C, x.slot), slotWord(free, 0, x.gen+1, 0))
}

// wantRead asks that somebody who begins now, and whom nobody disturbs, reads a word, step by step.
func wantRead(t *testing.T, e layout.Env, x thing, k, value int) {
	t.Helper()
	a := access.New(x.read(k), x.own)
	wantDone(t, a, api.Done{})
	now := wantLoaded(t, e, a, x, k)
	wantChecked(t, e, a, x.slot, api.Done{Value: value, Stamp: now})
}

// wantWritten asks the same of one who lays a word in which there was another one.
func wantWritten(t *testing.T, e layout.Env, x thing, k, was, value int) {
	t.Helper()
	wantRead(t, e, x, k, was)
	a := access.New(x.write(k, value), x.own)
	wantDone(t, a, api.Done{})
	wantLoaded(t, e, a, x, k)
	wantLaid(t, e, a, x.at(k), value)
	wantRead(t, e, x, k, value)
}

// wantExchanged asks the same of one who exchanges it.
func wantExchanged(t *testing.T, e layout.Env, x thing, k, old, value int) {
	t.Helper()
	wantRead(t, e, x, k, old)
	a := access.New(x.exchange(k, old, value), x.own)
	wantDone(t, a, api.Done{})
	wantLoaded(t, e, a, x, k)
	wantLaid(t, e, a, x.at(k), value)
	wantRead(t, e, x, k, value)
}

// wantOther asks that a word is not exchanged: another value is there.
func wantOther(t *testing.T, e layout.Env, x thing, k, old, is int) {
	t.Helper()
	a := access.New(x.exchange(k, old, 123), x.own)
	wantDone(t, a, api.Done{})
	now := wantLoaded(t, e, a, x, k)
	wantChecked(t, e, a, x.slot, api.Done{E: api.ErrOther, Value: is, Stamp: now})
	wantRead(t, e, x, k, is)
}

// wantNoIndex asks that the object has no such word.
func wantNoIndex(t *testing.T, e layout.Env, x thing, want api.Want) {
	t.Helper()
	a := access.New(want, x.own)
	wantLook(t, e, a, slotAt(e.C, x.slot))
	now := e.Now()
	wantStep(t, e, a, x.addr, e.M.Peek(x.addr), true)
	wantDone(t, a, api.Done{E: api.ErrIndex, Stamp: now})
}

// wantNone asks that by a number no object lives, as its slot's word tells, or, without a step, the number itself.
func wantNone(t *testing.T, e layout.Env, want api.Want, own bool) {
	t.Helper()
	a := access.New(want, own)
	wantNoStep(t, e, func() { wantDone(t, a, api.Done{}) })
	number := want.Handle
	s := int(number & (1<<16 - 1))
	if number>>32 != 0 || number>>16 == 0 || s >= e.C.Slots {
		wantNoStep(t, e, func() {
			if !a.Step(e) {
				t.Fatalf("%#x is no handle", number)
			}
		})
		wantDone(t, a, api.Done{E: api.ErrInvalid, Stamp: e.Now()})
		return
	}
	wantGone(t, e, a, s)
}

// wantNotOwn asks that an object is not reached by one who says otherwise of whether it is Own.
func wantNotOwn(t *testing.T, e layout.Env, x thing, want api.Want) {
	t.Helper()
	a := access.New(want, !x.own)
	wantLook(t, e, a, slotAt(e.C, x.slot))
	wantStep(t, e, a, x.addr, e.M.Peek(x.addr), true)
	wantDone(t, a, api.Done{E: api.ErrInvalid, Stamp: e.Now()})
}

// came is what it came to for one who is alone, and how many steps that took.
func came(e layout.Env, want api.Want, own bool) (api.Done, int) {
	a := access.New(want, own)
	now := e.Now()
	for !a.Step(e) {
	}
	return a.Done(), e.Now() - now
}
