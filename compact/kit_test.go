package compact_test

import (
	"slices"
	"testing"

	"footlocker/access"
	"footlocker/alloc"
	"footlocker/api"
	"footlocker/compact"
	"footlocker/drop"
	"footlocker/layout"
	"footlocker/mem"
)

// sparse is of 1000 words that were given out how many must live in the tests' arenas, unless a test says so.
const sparse = 600

// grace is how many epochs behind its evacuation a chunk is free.
const grace = 2

// arena is an arena of so many slots, and so many chunks of so many words.
func arena(slots, chunks, words int) api.Config {
	return api.Config{Threads: 3, Slots: slots, Chunks: chunks, Words: words, Gens: 99, Sparse: sparse, Tries: 3}
}

// entered is the compactor in a fresh arena.
func entered(t *testing.T, c api.Config) layout.Env {
	t.Helper()
	m, e := layout.Fresh(c)
	if e != api.OK {
		t.Fatal(e)
	}
	return layout.Env{C: c, M: m, Who: api.Compactor}
}

// by is somebody else in the same arena.
func by(e layout.Env, who int) layout.Env {
	e.Who = who
	return e
}

// rooms is how many words each class takes: 2, 4, 8, 16, and one for the head.
var rooms = [...]int{3, 5, 9, 17}

// classes is the class of each size; 0 has none.
var classes = [...]int{-1, 0, 0, 1, 1, 2, 2, 2, 2, 3, 3, 3, 3, 3, 3, 3, 3}

// epochAt is where the epoch stands: first of all.
const epochAt = 0

// openAt is where the open chunk of a class stands: behind the epoch and the first free slot.
func openAt(class int) int { return 2 + class }

// pinAt is where a thread's pin stands: behind the four open chunks.
func pinAt(thread int) int { return 6 + thread }

// slotAt is where a slot's word stands, its link behind it: behind the pins, and the slots ahead of it.
func slotAt(c api.Config, s int) int {
	return pinAt(c.Threads) + 2*s
}

// chunkAt is where a chunk's word stands; liveAt, how many of its words live; sinceAt, in which epoch it was evacuated.
func chunkAt(c api.Config, i int) int {
	return slotAt(c, c.Slots) + 3*i
}
func liveAt(c api.Config, i int) int  { return chunkAt(c, i) + 1 }
func sinceAt(c api.Config, i int) int { return chunkAt(c, i) + 2 }

// baseAt is where a chunk's words stand.
func baseAt(c api.Config, i int) int {
	return chunkAt(c, c.Chunks) + c.Words*i
}

// chunkOf is the chunk in which a word is; below 0: it is in none.
func chunkOf(c api.Config, addr int) int {
	if addr < baseAt(c, 0) {
		return -1
	}
	return (addr - baseAt(c, 0)) / c.Words
}

// States of a slot's word, kinds of a head, states of a chunk's word.
const (
	vacant   = 0
	live     = 1
	moving   = 2
	retired  = 3
	dropping = 4

	none    = 0
	pending = 1
	ready   = 2
	dead    = 3

	free  = 0
	open  = 1
	evac  = 2
	quiet = 3
)

// slotWord is a handle's word.
func slotWord(state, addr, gen, ver int) uint64 {
	return uint64(state) | uint64(addr)<<3 | uint64(gen)<<23 | uint64(ver)<<39
}

// What such a word has.
func stateOf(w uint64) int { return int(w & 7) }
func addrOf(w uint64) int  { return int(w >> 3 & (1<<20 - 1)) }
func genOf(w uint64) int   { return int(w >> 23 & (1<<16 - 1)) }
func verOf(w uint64) int   { return int(w >> 39 & (1<<22 - 1)) }

// lives is whether an object lives by such a word.
func lives(w uint64) bool {
	s := stateOf(w)
	return s == live || s == moving || s == dropping
}

// chunkWord is a chunk's word.
func chunkWord(state, class, used, stamp int) uint64 {
	return uint64(state) | uint64(class)<<2 | uint64(used)<<8 | uint64(stamp)<<28
}

// What such a word has.
func kindOf(w uint64) int  { return int(w & 3) }
func classOf(w uint64) int { return int(w >> 2 & (1<<6 - 1)) }
func usedOf(w uint64) int  { return int(w >> 8 & (1<<20 - 1)) }
func stampOf(w uint64) int { return int(w >> 28) }

// turned is such a word in another state, its Stamp one more.
func turned(w uint64, state int) uint64 {
	return chunkWord(state, classOf(w), usedOf(w), min(stampOf(w)+1, api.MostStamp))
}

// head is an object's head.
func head(kind, size, s, gen int, own bool) uint64 {
	w := uint64(kind) | uint64(size)<<2 | uint64(s)<<18 | uint64(gen)<<34
	if own {
		w |= 1 << 50
	}
	return w
}

// What such a word has.
func sizeOf(w uint64) int { return int(w >> 2 & (1<<16 - 1)) }
func ownOf(w uint64) bool { return w>>50&1 != 0 }

// frozen is a cell that is frozen in a move of a version; valueOf is the value of a cell.
func frozen(value, ver int) uint64 { return uint64(value) | uint64(ver)<<40 | 1<<63 }
func valueOf(w uint64) int         { return int(w & (1<<40 - 1)) }

// handle is a handle as a number.
func handle(s, gen int) uint64 { return uint64(s) | uint64(gen)<<16 }

// words is a memory's words, without a step.
func words(m *mem.Mem) []uint64 {
	l := make([]uint64, m.Len())
	for a := range l {
		l[a] = m.Peek(a)
	}
	return l
}

// chunkWords is the words of all chunks, without a step.
func chunkWords(e layout.Env) []uint64 {
	var l []uint64
	for i := range e.C.Chunks {
		l = append(l, e.M.Peek(chunkAt(e.C, i)))
	}
	return l
}

// mixed is a number below n, and the next state of what it is mixed from.
func mixed(x uint64, n int) (int, uint64) {
	x = x*6364136223846793005 + 1442695040888963407
	return int(x >> 33 % uint64(n)), x
}

// thing is an object: what it is, and where it stands.
type thing struct {
	slot, gen, state, ver int
	size                  int
	own                   bool
	addr                  int
}

// number is its handle as a number.
func (x thing) number() uint64 { return handle(x.slot, x.gen) }

// in is its slot's word in a state, of a version.
func (x thing) in(state, ver int) uint64 {
	return slotWord(state, x.addr, x.gen, ver)
}

// head is its head, of a kind.
func (x thing) head(kind int) uint64 { return head(kind, x.size, x.slot, x.gen, x.own) }

// room is how many words it takes.
func (x thing) room() int { return rooms[classes[x.size]] }

// value is that of one of its words, as it is laid.
func (x thing) value(k int) int { return x.slot*1000 + x.gen*100 + k + 1<<39 }

// at is where one of its words stands.
func (x thing) at(k int) int { return x.addr + 1 + k }

// read, write and exchange is what is done to one of its words.
func (x thing) read(k int) api.Want {
	return api.Want{Kind: api.DoRead, Handle: x.number(), Index: k}
}

func (x thing) write(k, value int) api.Want {
	return api.Want{Kind: api.DoWrite, Handle: x.number(), Index: k, Value: value}
}

func (x thing) exchange(k, old, value int) api.Want {
	return api.Want{Kind: api.DoCas, Handle: x.number(), Index: k, Value: value, Old: old}
}

// found is the object of a slot, as the memory tells it.
func found(e layout.Env, s int) thing {
	w := e.M.Peek(slotAt(e.C, s))
	h := e.M.Peek(addrOf(w))
	return thing{
		slot: s, gen: genOf(w), state: stateOf(w), ver: verOf(w),
		size: sizeOf(h), own: ownOf(h), addr: addrOf(w),
	}
}

// stepper is whoever does steps till it is done.
type stepper interface{ Step(e layout.Env) bool }

// run lets somebody who is alone come to an end.
func run(t *testing.T, e layout.Env, s stepper) {
	t.Helper()
	for most := 2000; !s.Step(e); most-- {
		if most < 0 {
			t.Fatal("it is not done")
		}
	}
}

// made is the object that a thread that is alone makes, each word laid as it must be.
func made(t *testing.T, e layout.Env, size int, own bool) thing {
	t.Helper()
	e.Who = 0
	a := alloc.New(size, own)
	run(t, e, a)
	if a.Done().E != api.OK {
		t.Fatal(a.Done())
	}
	x := found(e, int(a.Done().Handle&(1<<16-1)))
	for k := range size {
		laid(t, e, x, k, x.value(k))
	}
	return x
}

// laid lays a word of an object.
func laid(t *testing.T, e layout.Env, x thing, k, value int) {
	t.Helper()
	a := access.New(x.write(k, value), x.own)
	run(t, by(e, 0), a)
	if a.Done().E != api.OK {
		t.Fatal(a.Done())
	}
}

// letGo lets an object go.
func letGo(t *testing.T, e layout.Env, l ...thing) {
	t.Helper()
	for _, x := range l {
		d := drop.New(x.number(), x.own)
		run(t, by(e, 0), d)
		if d.Done().E != api.OK {
			t.Fatal(d.Done())
		}
	}
}

// wantThere asks that objects have their words, by their handles.
func wantThere(t *testing.T, e layout.Env, l ...thing) {
	t.Helper()
	for _, x := range l {
		for k := range x.size {
			wantWord(t, e, x, k, x.value(k))
		}
	}
}

// wantWord asks for the value of a word, by its object's handle.
func wantWord(t *testing.T, e layout.Env, x thing, k, value int) {
	t.Helper()
	a := access.New(x.read(k), x.own)
	run(t, by(e, 1), a)
	if d := a.Done(); d.E != api.OK || d.Value != value {
		t.Fatalf("word %d of %v is told as %v, not as %d", k, x, d, value)
	}
}

// wantGone asks that objects that were let go are told as such.
func wantGone(t *testing.T, e layout.Env, l ...thing) {
	t.Helper()
	for _, x := range l {
		a := access.New(x.read(0), x.own)
		run(t, by(e, 1), a)
		if d := a.Done(); d.E != api.ErrInvalid {
			t.Fatalf("%v was let go, and is told as %v", x, d)
		}
	}
}

// wantNoStep asks that what is done touches nothing.
func wantNoStep(t *testing.T, e layout.Env, do func()) {
	t.Helper()
	now, last, l := e.Now(), e.M.Last(), words(e.M)
	do()
	if e.Now() != now || e.M.Last() != last || !slices.Equal(words(e.M), l) {
		t.Fatalf("%v: touched was %v", e.C, e.M.Last())
	}
}

// wantGiven asks that the word that was touched last was given out, in a chunk that is not free, if it is one of a chunk's.
func wantGiven(t *testing.T, e layout.Env) {
	t.Helper()
	addr := e.M.Last().Addr
	i := chunkOf(e.C, addr)
	if i < 0 {
		return
	}
	w := e.M.Peek(chunkAt(e.C, i))
	if kindOf(w) == free || addr-baseAt(e.C, i) >= usedOf(w) {
		t.Fatalf("word %d of chunk %d, %#x, was touched by %d", addr-baseAt(e.C, i), i, w, e.M.Last().Who)
	}
}

// step does a step, and asks that it touches one word, by Who, and none of a chunk that is free, or that was not given out.
func step(t *testing.T, e layout.Env, c *compact.Compactor) {
	t.Helper()
	now := e.Now()
	e.M.By(e.Who + 7)
	c.Step(e)
	if e.Now() != now+1 || e.M.Last().Who != e.Who {
		t.Fatalf("%d steps, the last one %v", e.Now()-now, e.M.Last())
	}
	wantGiven(t, e)
}

// mostSteps is how many steps a round has, at most, for one who is alone.
func mostSteps(c api.Config) int {
	each := 20 + 3*c.Chunks + 3*api.MostSize
	return 6*c.Chunks + c.Threads + 20 + each*(c.Words/rooms[0]) + c.Chunks*c.Words
}

// round does a whole round; it begins at its first step, and is over by its last one.
func round(t *testing.T, e layout.Env, c *compact.Compactor) {
	t.Helper()
	at := c.Work().Rounds
	if c.Busy() {
		t.Fatal("it is within a round")
	}
	for most := mostSteps(e.C); ; most-- {
		if most < 0 {
			t.Fatal("the round is not over")
		}
		step(t, e, c)
		over := c.Work().Rounds != at
		if c.Busy() == over {
			t.Fatalf("behind a step it is busy: %v; its rounds: %d, then %d", c.Busy(), at, c.Work().Rounds)
		}
		if over {
			break
		}
	}
	if c.Work().Rounds != at+1 {
		t.Fatalf("%d rounds in one", c.Work().Rounds-at)
	}
}

// rounds does so many of them.
func rounds(t *testing.T, e layout.Env, c *compact.Compactor, n int) {
	t.Helper()
	for range n {
		round(t, e, c)
	}
}

// toRest does rounds till nothing was done in one, alone; that is so behind some of them.
func toRest(t *testing.T, e layout.Env, c *compact.Compactor) {
	t.Helper()
	for most := 10 + 6*e.C.Chunks; ; most-- {
		if most < 0 {
			t.Fatalf("it does not rest: %v", c.Work())
		}
		if round(t, e, c); c.Idle() > 0 {
			return
		}
	}
}

// wantWork asks what it did; rounds are asked for, unless they are below 0.
func wantWork(t *testing.T, c *compact.Compactor, evacuated, left, freed, moved, rounds int) {
	t.Helper()
	w := c.Work()
	if rounds < 0 {
		rounds = w.Rounds
	}
	if want := (api.Work{Evacuated: evacuated, Left: left, Freed: freed, Moved: moved, Rounds: rounds}); w != want {
		t.Fatalf("its work is %+v, not %+v", w, want)
	}
}

// wantStep does one step and asks that it touches that word alone, by Who, behind which it is w, and changes no other.
func wantStep(t *testing.T, e layout.Env, c *compact.Compactor, addr int, w uint64) {
	t.Helper()
	now := e.Now()
	l := words(e.M)
	changed := l[addr] != w
	l[addr] = w
	// Somebody else did what was done ahead of it.
	e.M.By(e.Who + 1)
	c.Step(e)
	if e.Now() != now+1 {
		t.Fatalf("at word %d: %d steps, not one", addr, e.Now()-now)
	}
	if last := (api.Touch{Addr: addr, Who: e.Who, Changed: changed}); e.M.Last() != last {
		t.Fatalf("noted is %v, not %v", e.M.Last(), last)
	}
	for a, w := range words(e.M) {
		if w != l[a] {
			t.Fatalf("at word %d: word %d is %#x, not %#x", addr, a, w, l[a])
		}
	}
}

// wantLook asks for a step that loads a word, or changes it in vain.
func wantLook(t *testing.T, e layout.Env, c *compact.Compactor, addr int) {
	t.Helper()
	wantStep(t, e, c, addr, e.M.Peek(addr))
}

// wantCounted asks that each object that lives has a place of its own, in a chunk of its class, with its head, and that as many words are counted to live in each chunk as do.
func wantCounted(t *testing.T, e layout.Env) {
	t.Helper()
	count := make([]int, e.C.Chunks)
	for _, x := range wantApart(t, e) {
		if h := e.M.Peek(x.addr); h != x.head(ready) {
			t.Fatalf("the head of %v is %#x", x, h)
		}
		count[chunkOf(e.C, x.addr)] += x.room()
	}
	for i, n := range count {
		if got := e.M.Peek(liveAt(e.C, i)); got != uint64(n) && kindOf(e.M.Peek(chunkAt(e.C, i))) != quiet {
			t.Fatalf("in chunk %d %d words are counted to live, not %d", i, int64(got), n)
		}
	}
}

// wantApart asks that each object that lives has a place of its own, in a chunk of its class that is Open or Evac, and a head there: all of them.
func wantApart(t *testing.T, e layout.Env) []thing {
	t.Helper()
	var l []thing
	places := map[int]int{}
	for s := range e.C.Slots {
		if !lives(e.M.Peek(slotAt(e.C, s))) {
			continue
		}
		x := found(e, s)
		i := chunkOf(e.C, x.addr)
		c := e.M.Peek(chunkAt(e.C, i))
		at := x.addr - baseAt(e.C, i)
		if kindOf(c) != open && kindOf(c) != evac || classOf(c) != classes[x.size] || at%x.room() != 0 || at+x.room() > usedOf(c) {
			t.Fatalf("%v stands in chunk %#x, at %d", x, c, at)
		}
		if is, other := places[x.addr]; other {
			t.Fatalf("slots %d and %d are of one object", s, is)
		}
		places[x.addr] = s
		if h := e.M.Peek(x.addr); h != x.head(ready) && h != x.head(pending) {
			t.Fatalf("the head of %v is %#x", x, h)
		}
		l = append(l, x)
	}
	return l
}

// dense is whether a chunk is not to be evacuated, though it is not the open one of its class.
func dense(e layout.Env, i int) bool {
	w, n := e.M.Peek(chunkAt(e.C, i)), int(e.M.Peek(liveAt(e.C, i)))
	return n > 0 && 1000*n >= e.C.Sparse*usedOf(w)
}

// isOpen is whether a chunk is the open one of its class.
func isOpen(e layout.Env, i int) bool {
	w := e.M.Peek(chunkAt(e.C, i))
	return kindOf(w) == open && e.M.Peek(openAt(classOf(w))) == uint64(i+1)
}

// freeOnes is how many chunks are free.
func freeOnes(e layout.Env) int {
	n := 0
	for _, w := range chunkWords(e) {
		if kindOf(w) == free {
			n++
		}
	}
	return n
}

// wantRest asks that each chunk is free, the open one of its class, or dense enough, unless no chunk is free; that those that are free have noughts alone, and that all words of others that were not given out are noughts.
func wantRest(t *testing.T, e layout.Env) {
	t.Helper()
	wantCounted(t, e)
	room := freeOnes(e) > 0
	for i, w := range chunkWords(e) {
		switch {
		case kindOf(w) == free && (usedOf(w) != 0 || e.M.Peek(liveAt(e.C, i)) != 0):
			t.Fatalf("chunk %d, which is free, is %#x, and %d of its words live", i, w, e.M.Peek(liveAt(e.C, i)))
		case kindOf(w) == evac || kindOf(w) == quiet:
			t.Fatalf("chunk %d is left as %#x", i, w)
		case kindOf(w) == open && room && !isOpen(e, i) && !dense(e, i):
			t.Fatalf("chunk %d, %#x, of which %d words live, is left to be evacuated", i, w, e.M.Peek(liveAt(e.C, i)))
		}
		for k := usedOf(w); k < e.C.Words; k++ {
			if v := e.M.Peek(baseAt(e.C, i) + k); v != 0 {
				t.Fatalf("word %d of chunk %d, %#x, is %#x", k, i, w, v)
			}
		}
	}
}
