package move_test

import (
	"slices"
	"testing"

	"footlocker/alloc"
	"footlocker/api"
	"footlocker/drop"
	"footlocker/layout"
	"footlocker/mem"
	"footlocker/move"
)

// gens is how many lives a slot of the tests' arenas has.
const gens = 9

// arena is an arena of so many slots, and so many chunks of so many words.
func arena(slots, chunks, words int) api.Config {
	return api.Config{Threads: 3, Slots: slots, Chunks: chunks, Words: words, Gens: gens, Sparse: 600, Tries: 3}
}

// entered is somebody in a fresh arena.
func entered(t *testing.T, c api.Config, who int) layout.Env {
	t.Helper()
	m, e := layout.Fresh(c)
	if e != api.OK {
		t.Fatal(e)
	}
	return layout.Env{C: c, M: m, Who: who}
}

// filled is somebody in an arena of which no two words are the same, but for the slots' words and links: a word that is changed by mistake, or loaded in the place of another one, is seen.
func filled(t *testing.T, c api.Config, who int) layout.Env {
	t.Helper()
	e := entered(t, c, who)
	for a := range e.M.Len() {
		if a < slotAt(c, 0) || a >= chunkAt(c, 0) {
			e.M.Store(a, 1<<60+uint64(a))
		}
	}
	return e
}

// rooms is how many words each class takes: 2, 4, 8, 16, and one for the head.
var rooms = [...]int{3, 5, 9, 17}

// classes is the class of each size; 0 has none.
var classes = [...]int{-1, 0, 0, 1, 1, 2, 2, 2, 2, 3, 3, 3, 3, 3, 3, 3, 3}

// openAt is where the open chunk of a class stands: behind the epoch and the first free slot.
func openAt(class int) int { return 2 + class }

// slotAt is where a slot's word stands, its link behind it: behind four open chunks, the pins, and the slots ahead of it.
func slotAt(c api.Config, s int) int {
	return 6 + c.Threads + 2*s
}

// chunkAt is where a chunk's word stands, how many of its words live behind it.
func chunkAt(c api.Config, i int) int {
	return slotAt(c, c.Slots) + 3*i
}

// baseAt is where a chunk's words stand.
func baseAt(c api.Config, i int) int {
	return chunkAt(c, c.Chunks) + c.Words*i
}

// chunkOf is the chunk in which a word is.
func chunkOf(c api.Config, addr int) int {
	return (addr - baseAt(c, 0)) / c.Words
}

// States of a slot's word, kinds of a head, states of a chunk's word.
const (
	free     = 0
	live     = 1
	moving   = 2
	retired  = 3
	dropping = 4

	pending = 1
	ready   = 2
	dead    = 3

	unused = 0
	open   = 1
	evac   = 2
	quiet  = 3
)

// slotWord is a handle's word.
func slotWord(state, addr, gen, ver int) uint64 {
	return uint64(state) | uint64(addr)<<3 | uint64(gen)<<23 | uint64(ver)<<39
}

// What such a word has.
func stateOf(w uint64) int { return int(w & 7) }
func addrOf(w uint64) int  { return int(w >> 3 & (1<<20 - 1)) }
func genOf(w uint64) int   { return int(w >> 23 & (1<<16 - 1)) }
func verOf(w uint64) int   { return int(w >> 39 & (1<<22 - 1)) }

// lives is whether an object lives by such a word.
func lives(w uint64) bool {
	s := stateOf(w)
	return s == live || s == moving || s == dropping
}

// chunkWord is a chunk's word.
func chunkWord(state, class, used, stamp int) uint64 {
	return uint64(state) | uint64(class)<<2 | uint64(used)<<8 | uint64(stamp)<<28
}

// What such a word has.
func kindOf(w uint64) int  { return int(w & 3) }
func classOf(w uint64) int { return int(w >> 2 & (1<<6 - 1)) }
func usedOf(w uint64) int  { return int(w >> 8 & (1<<20 - 1)) }

// head is an object's head.
func head(kind, size, s, gen int, own bool) uint64 {
	w := uint64(kind) | uint64(size)<<2 | uint64(s)<<18 | uint64(gen)<<34
	if own {
		w |= 1 << 50
	}
	return w
}

// What such a word has.
func sizeOf(w uint64) int { return int(w >> 2 & (1<<16 - 1)) }
func ownOf(w uint64) bool { return w>>50&1 != 0 }

// frozen is a cell that is frozen in a move of a version.
func frozen(value, ver int) uint64 { return uint64(value) | uint64(ver)<<40 | 1<<63 }

// What a cell has; the version is -1, if it is not frozen.
func valueOf(w uint64) int { return int(w & (1<<40 - 1)) }
func frozenIn(w uint64) int {
	if w>>63 == 0 {
		return -1
	}
	return int(w >> 40 & (1<<22 - 1))
}

// handle is a handle as a number.
func handle(s, gen int) uint64 { return uint64(s) | uint64(gen)<<16 }

// words is a memory's words, without a step.
func words(m *mem.Mem) []uint64 {
	l := make([]uint64, m.Len())
	for a := range l {
		l[a] = m.Peek(a)
	}
	return l
}

// thing is an object: what it is, and where it stands.
type thing struct {
	slot, gen, state, ver int
	size                  int
	own                   bool
	addr                  int
}

// number is its handle as a number.
func (x thing) number() uint64 { return handle(x.slot, x.gen) }

// word is its slot's word; in is that in another state, of another version.
func (x thing) word() uint64 { return x.in(x.state, x.ver) }
func (x thing) in(state, ver int) uint64 {
	return slotWord(state, x.addr, x.gen, ver)
}

// head is its head, as it is handed in; headWord is the word of one of a kind.
func (x thing) head() api.Head {
	return api.Head{Kind: ready, Size: x.size, Slot: x.slot, Gen: x.gen, Own: x.own}
}
func (x thing) headWord(kind int) uint64 { return head(kind, x.size, x.slot, x.gen, x.own) }

// room is how many words it takes.
func (x thing) room() int { return rooms[classes[x.size]] }

// value is that of one of its words, as it is laid.
func (x thing) value(k int) int { return x.slot*1000 + k + 1<<39 }

// at is where one of its words stands.
func (x thing) at(k int) int { return x.addr + 1 + k }

// read, write and exchange is what is done to one of its words.
func (x thing) read(k int) api.Want {
	return api.Want{Kind: api.DoRead, Handle: x.number(), Index: k}
}

func (x thing) write(k, value int) api.Want {
	return api.Want{Kind: api.DoWrite, Handle: x.number(), Index: k, Value: value}
}

func (x thing) exchange(k, old, value int) api.Want {
	return api.Want{Kind: api.DoCas, Handle: x.number(), Index: k, Value: value, Old: old}
}

// lay lays objects into an arena, each into the words that are its own.
func lay(e layout.Env, l ...thing) {
	for _, x := range l {
		e.M.Store(slotAt(e.C, x.slot), x.word())
		e.M.Store(x.addr, x.headWord(ready))
		for k := range x.size {
			e.M.Store(x.at(k), uint64(x.value(k)))
		}
	}
}

// layChunk lays a chunk's word, and how many of its words live.
func layChunk(e layout.Env, i int, w uint64, live int) {
	e.M.Store(chunkAt(e.C, i), w)
	e.M.Store(chunkAt(e.C, i)+1, uint64(live))
}

// placed is somebody in an arena in which there is an object of a size: in slot 1, in its third life, within chunk 1, which is evacuated. Chunk 2 is the open one of its class, chunk 3 is free.
func placed(t *testing.T, size int, own bool) (layout.Env, thing) {
	t.Helper()
	e := filled(t, arena(4, 4, 80), 2)
	x := thing{slot: 1, gen: 3, state: live, size: size, own: own}
	x.addr = baseAt(e.C, 1) + x.room()
	class := classes[size]
	lay(e, x)
	layChunk(e, 0, chunkWord(open, (class+1)%4, 75, 3), 40)
	layChunk(e, 1, chunkWord(evac, class, 4*x.room(), 7), 2*x.room())
	layChunk(e, 2, chunkWord(open, class, 2*x.room(), 9), x.room())
	layChunk(e, 3, chunkWord(unused, 0, 0, 5), 0)
	for i := range 4 {
		e.M.Store(openAt(i), 0)
	}
	e.M.Store(openAt(class), 3)
	e.M.Store(openAt((class+1)%4), 1)
	return e, x
}

// standing is the same, of which the slot's word is in that state, of that version.
func standing(t *testing.T, size, state, ver int) (layout.Env, thing) {
	t.Helper()
	e, x := placed(t, size, false)
	x.state, x.ver = state, ver
	e.M.Store(slotAt(e.C, 1), x.word())
	return e, x
}

// copyOf is where the copy of such an object comes to stand.
func copyOf(e layout.Env, x thing) api.Spot {
	return api.Spot{Addr: baseAt(e.C, 2) + 2*x.room(), Chunk: 2}
}

// elsewhere is the same arena, in which somebody else works.
func elsewhere(e layout.Env) layout.Env {
	e.Who = 1
	return e
}

// made is the object that one who is alone makes, as the memory tells it.
func made(t *testing.T, e layout.Env, size int, own bool) thing {
	t.Helper()
	a := alloc.New(size, own)
	for !a.Step(e) {
	}
	if a.Done().E != api.OK {
		t.Fatal(a.Done())
	}
	return found(e, a.Done().Handle)
}

// found is the object of a handle that lives, as the memory tells it.
func found(e layout.Env, number uint64) thing {
	s := int(number & (1<<16 - 1))
	w := e.M.Peek(slotAt(e.C, s))
	h := e.M.Peek(addrOf(w))
	return thing{
		slot: s, gen: genOf(w), state: stateOf(w), ver: verOf(w),
		size: sizeOf(h), own: ownOf(h), addr: addrOf(w),
	}
}

// letGo lets an object go.
func letGo(t *testing.T, e layout.Env, x thing) {
	t.Helper()
	d := drop.New(x.number(), x.own)
	for !d.Step(e) {
	}
	if d.Done().E != api.OK {
		t.Fatal(d.Done())
	}
}

// mover is somebody who moves an object, and where the copy must be told to be.
type mover struct {
	*move.Move
	spot api.Spot
	is   bool
}

func newMover(x thing) *mover {
	return &mover{Move: move.New(x.addr, x.head())}
}

// stepper is whoever does steps.
type stepper interface{ Step(e layout.Env) bool }

// wantStep does one step and asks that it touches that word alone, by Who, behind which it is w, changes no other, and tells whether it is done.
func wantStep(t *testing.T, e layout.Env, s stepper, addr int, w uint64, done bool) {
	t.Helper()
	now := e.Now()
	l := words(e.M)
	changed := l[addr] != w
	l[addr] = w
	// Somebody else did what was done ahead of it.
	e.M.By(e.Who + 1)
	if got := s.Step(e); got != done {
		t.Fatalf("by %d at word %d: done is %v, not %v", e.Who, addr, got, done)
	}
	if e.Now() != now+1 {
		t.Fatalf("by %d at word %d: %d steps, not one", e.Who, addr, e.Now()-now)
	}
	if last := (api.Touch{Addr: addr, Who: e.Who, Changed: changed}); e.M.Last() != last {
		t.Fatalf("noted is %v, not %v", e.M.Last(), last)
	}
	for a, w := range words(e.M) {
		if w != l[a] {
			t.Fatalf("by %d at word %d: word %d is %#x, not %#x", e.Who, addr, a, w, l[a])
		}
	}
}

// wantNoStep asks that what is done touches nothing.
func wantNoStep(t *testing.T, e layout.Env, do func()) {
	t.Helper()
	now, last, l := e.Now(), e.M.Last(), words(e.M)
	do()
	if e.Now() != now || e.M.Last() != last || !slices.Equal(words(e.M), l) {
		t.Fatalf("touched was %v", e.M.Last())
	}
}

// wantOut asks what it came to, and where the copy is.
func wantOut(t *testing.T, m *mover, out int) {
	t.Helper()
	if got := m.Out(); got != out {
		t.Fatalf("it came to %d, not %d", got, out)
	}
	if spot, is := m.Spot(); is != m.is || spot != m.spot {
		t.Fatalf("the copy is at %v, %v, not at %v, %v", spot, is, m.spot, m.is)
	}
}

// wantOn asks for a step behind which it is not done, and came to nothing.
func wantOn(t *testing.T, e layout.Env, m *mover, addr int, w uint64) {
	t.Helper()
	wantStep(t, e, m, addr, w, false)
	wantOut(t, m, 0)
}

// wantLook asks for a step that loads a word, or that changes it in vain.
func wantLook(t *testing.T, e layout.Env, m *mover, addr int) {
	t.Helper()
	wantOn(t, e, m, addr, e.M.Peek(addr))
}

// wantSeen asks for the step that loads the slot's word, behind which it goes on.
func wantSeen(t *testing.T, e layout.Env, m *mover, x thing) {
	t.Helper()
	wantLook(t, e, m, slotAt(e.C, x.slot))
}

// wantGot asks for the steps by which words of the open chunk are got.
func wantGot(t *testing.T, e layout.Env, m *mover, x thing) {
	t.Helper()
	class := classes[x.size]
	wantLook(t, e, m, openAt(class))
	i := int(e.M.Peek(openAt(class))) - 1
	at := chunkAt(e.C, i)
	wantLook(t, e, m, at)
	w := e.M.Peek(at)
	m.spot, m.is = api.Spot{Addr: baseAt(e.C, i) + usedOf(w), Chunk: i}, true
	wantOn(t, e, m, at, w+uint64(x.room())<<8)
}

// wantHead asks for the step that lays the copy's head.
func wantHead(t *testing.T, e layout.Env, m *mover, x thing, kind int) {
	t.Helper()
	wantOn(t, e, m, m.spot.Addr, x.headWord(kind))
}

// wantMarked asks for the step by which the slot is Moving.
func wantMarked(t *testing.T, e layout.Env, m *mover, x thing) {
	t.Helper()
	wantOn(t, e, m, slotAt(e.C, x.slot), x.in(moving, x.ver))
}

// wantCell asks for the steps by which a cell is loaded, frozen in a move of the version, if it is not already, and its value laid in the copy.
func wantCell(t *testing.T, e layout.Env, m *mover, x thing, k int) {
	t.Helper()
	w := e.M.Peek(x.at(k))
	wantLook(t, e, m, x.at(k))
	if frozenIn(w) < x.ver {
		wantOn(t, e, m, x.at(k), frozen(valueOf(w), x.ver))
	}
	wantOn(t, e, m, m.spot.Addr+1+k, uint64(valueOf(w)))
}

// wantCells asks for those of all cells from one on.
func wantCells(t *testing.T, e layout.Env, m *mover, x thing, from int) {
	t.Helper()
	for k := from; k < x.size; k++ {
		wantCell(t, e, m, x, k)
	}
}

// wantShown asks for the step by which the object stands where the copy is, and for those behind it, to the end: the object.
func wantShown(t *testing.T, e layout.Env, m *mover, x thing) thing {
	t.Helper()
	y := x
	y.state, y.addr, y.ver = live, m.spot.Addr, x.ver+1
	wantOn(t, e, m, slotAt(e.C, x.slot), y.word())
	wantHead(t, e, m, x, ready)
	wantCounted(t, e, m, x)
	return y
}

// wantCounted asks for the last two steps: how many words live.
func wantCounted(t *testing.T, e layout.Env, m *mover, x thing) {
	t.Helper()
	at := chunkAt(e.C, m.spot.Chunk) + 1
	wantOn(t, e, m, at, e.M.Peek(at)+uint64(x.room()))
	at = chunkAt(e.C, chunkOf(e.C, x.addr)) + 1
	wantStep(t, e, m, at, e.M.Peek(at)-uint64(x.room()), true)
	wantOut(t, m, api.MoveDone)
}

// wantVain asks for the step by which the object is not shown, as the slot's word is another one.
func wantVain(t *testing.T, e layout.Env, m *mover, x thing) {
	t.Helper()
	wantLook(t, e, m, slotAt(e.C, x.slot))
}

// wantAnew asks that all begins anew, with the words that were got, up to where the slot is Moving.
func wantAnew(t *testing.T, e layout.Env, m *mover, x thing) {
	t.Helper()
	wantSeen(t, e, m, x)
	wantHead(t, e, m, x, pending)
	wantMarked(t, e, m, x)
}

// wantBegun asks for all up to where the slot is Moving.
func wantBegun(t *testing.T, e layout.Env, m *mover, x thing) {
	t.Helper()
	wantSeen(t, e, m, x)
	wantGot(t, e, m, x)
	wantHead(t, e, m, x, pending)
	wantMarked(t, e, m, x)
}

// wantBuried asks for the step by which the copy is dead, the last one.
func wantBuried(t *testing.T, e layout.Env, m *mover, x thing, out int) {
	t.Helper()
	wantStep(t, e, m, m.spot.Addr, x.headWord(dead), true)
	wantOut(t, m, out)
}

// wantMoved asks that somebody who begins now, and whom nobody disturbs, moves an object, step by step: the object.
func wantMoved(t *testing.T, e layout.Env, x thing) thing {
	t.Helper()
	m := newMover(x)
	wantNoStep(t, e, func() { wantOut(t, m, 0) })
	wantBegun(t, e, m, x)
	wantCells(t, e, m, x, 0)
	return wantShown(t, e, m, x)
}

// wantRefused asks that it ends at the step that loads the slot's word, and came to that, without a copy.
func wantRefused(t *testing.T, e layout.Env, m *mover, s, out int) {
	t.Helper()
	wantNoStep(t, e, func() { wantOut(t, m, 0) })
	wantStep(t, e, m, slotAt(e.C, s), e.M.Peek(slotAt(e.C, s)), true)
	wantOut(t, m, out)
}

// wantNone asks that it is dead without a step: there is nothing that could be loaded.
func wantNone(t *testing.T, e layout.Env, addr int, h api.Head) {
	t.Helper()
	m := &mover{Move: move.New(addr, h)}
	wantNoStep(t, e, func() {
		wantOut(t, m, 0)
		if !m.Step(e) {
			t.Fatalf("there is nothing at %d, of %v", addr, h)
		}
		wantOut(t, m, api.MoveDead)
	})
}

// wantThere asks that an object stands there, with its words as they were laid.
func wantThere(t *testing.T, e layout.Env, x thing) {
	t.Helper()
	if w := e.M.Peek(slotAt(e.C, x.slot)); w != x.word() {
		t.Fatalf("its slot's word is %#x, not %#x", w, x.word())
	}
	if w := e.M.Peek(x.addr); w != x.headWord(ready) {
		t.Fatalf("its head is %#x, not %#x", w, x.headWord(ready))
	}
	for k := range x.size {
		if v := valueOf(e.M.Peek(x.at(k))); v != x.value(k) {
			t.Fatalf("word %d is %d, not %d", k, v, x.value(k))
		}
	}
}

// came is what it came to for one who is alone.
func came(e layout.Env, addr int, h api.Head) (int, *move.Move) {
	m := move.New(addr, h)
	for !m.Step(e) {
	}
	return m.Out(), m
}
