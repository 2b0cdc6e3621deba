package act_test

import (
	"slices"
	"testing"

	"footlocker/access"
	"footlocker/act"
	"footlocker/alloc"
	"footlocker/api"
	"footlocker/drop"
	"footlocker/layout"
	"footlocker/mem"
)

// arena is an arena of so many slots, and so many chunks of so many words.
func arena(slots, chunks, words int) api.Config {
	return api.Config{Threads: 3, Slots: slots, Chunks: chunks, Words: words, Gens: 99, Sparse: 600, Tries: 3}
}

// entered is a thread in a fresh arena.
func entered(t *testing.T, c api.Config, who int) layout.Env {
	t.Helper()
	m, e := layout.Fresh(c)
	if e != api.OK {
		t.Fatal(e)
	}
	return layout.Env{C: c, M: m, Who: who}
}

// by is somebody else in the same arena.
func by(e layout.Env, who int) layout.Env {
	e.Who = who
	return e
}

// rooms is how many words each class takes: 2, 4, 8, 16, and one for the head.
var rooms = [...]int{3, 5, 9, 17}

// classes is the class of each size; 0 has none.
var classes = [...]int{-1, 0, 0, 1, 1, 2, 2, 2, 2, 3, 3, 3, 3, 3, 3, 3, 3}

// Where the epoch and the first free slot stand: first of all.
const (
	epochAt = 0
	topAt   = 1
)

// openAt is where the open chunk of a class stands: behind those.
func openAt(class int) int { return 2 + class }

// pinAt is where a thread's pin stands: behind the four open chunks.
func pinAt(thread int) int { return 6 + thread }

// slotAt is where a slot's word stands, its link behind it: behind the pins, and the slots ahead of it.
func slotAt(c api.Config, s int) int {
	return pinAt(c.Threads) + 2*s
}

// chunkAt is where a chunk's word stands; liveAt, how many of its words live.
func chunkAt(c api.Config, i int) int {
	return slotAt(c, c.Slots) + 3*i
}
func liveAt(c api.Config, i int) int { return chunkAt(c, i) + 1 }

// baseAt is where a chunk's words stand.
func baseAt(c api.Config, i int) int {
	return chunkAt(c, c.Chunks) + c.Words*i
}

// chunkOf is the chunk in which a word is; below 0: it is in none.
func chunkOf(c api.Config, addr int) int {
	if addr < baseAt(c, 0) {
		return -1
	}
	return (addr - baseAt(c, 0)) / c.Words
}

// States of a slot's word, kinds of a head, a state of a chunk's word.
const (
	vacant   = 0
	live     = 1
	moving   = 2
	dropping = 4

	pending = 1
	ready   = 2

	free = 0
)

// slotWord is a handle's word.
func slotWord(state, addr, gen, ver int) uint64 {
	return uint64(state) | uint64(addr)<<3 | uint64(gen)<<23 | uint64(ver)<<39
}

// What such a word has.
func stateOf(w uint64) int { return int(w & 7) }
func addrOf(w uint64) int  { return int(w >> 3 & (1<<20 - 1)) }
func genOf(w uint64) int   { return int(w >> 23 & (1<<16 - 1)) }
func verOf(w uint64) int   { return int(w >> 39 & (1<<22 - 1)) }

// What a chunk's word has.
func kindOf(w uint64) int { return int(w & 3) }
func usedOf(w uint64) int { return int(w >> 8 & (1<<20 - 1)) }

// head is an object's head.
func head(kind, size, s, gen int, own bool) uint64 {
	w := uint64(kind) | uint64(size)<<2 | uint64(s)<<18 | uint64(gen)<<34
	if own {
		w |= 1 << 50
	}
	return w
}

// What such a word has.
func sizeOf(w uint64) int { return int(w >> 2 & (1<<16 - 1)) }
func ownOf(w uint64) bool { return w>>50&1 != 0 }

// frozen is a cell that is frozen in a move of a version; valueOf is the value of a cell.
func frozen(value, ver int) uint64 { return uint64(value) | uint64(ver)<<40 | 1<<63 }
func valueOf(w uint64) int         { return int(w & (1<<40 - 1)) }

// handle is a handle as a number.
func handle(s, gen int) uint64 { return uint64(s) | uint64(gen)<<16 }

// words is a memory's words, without a step.
func words(m *mem.Mem) []uint64 {
	l := make([]uint64, m.Len())
	for a := range l {
		l[a] = m.Peek(a)
	}
	return l
}

// pins is the threads' pins.
func pins(e layout.Env) []uint64 {
	l := make([]uint64, e.C.Threads)
	for i := range l {
		l[i] = e.M.Peek(pinAt(i))
	}
	return l
}

// mixed is a number below n, and what the next one is made of.
func mixed(x uint64, n int) (int, uint64) {
	x = x*6364136223846793005 + 1442695040888963407
	return int(x >> 33 % uint64(n)), x
}

// These are acts.
func makes(size int, own bool) api.Act {
	return api.Act{Kind: 1, Size: size, Own: own}
}

func frees(number uint64, own bool) api.Act {
	return api.Act{Kind: 2, Handle: number, Own: own}
}

func reads(number uint64, k int, own bool) api.Act {
	return api.Act{Kind: 3, Handle: number, Index: k, Own: own}
}

func writes(number uint64, k, value int, own bool) api.Act {
	return api.Act{Kind: 4, Handle: number, Index: k, Value: value, Own: own}
}

func exchanges(number uint64, k, old, value int, own bool) api.Act {
	return api.Act{Kind: 5, Handle: number, Index: k, Old: old, Value: value, Own: own}
}

// begun is one who does an act that may be.
func begun(t *testing.T, x api.Act) *act.Act {
	t.Helper()
	a, e := act.New(x)
	if e != api.OK || a == nil {
		t.Fatalf("%+v: %v", x, e)
	}
	wantDone(t, a, api.Done{})
	return a
}

// wantDone asks what it came to.
func wantDone(t *testing.T, a *act.Act, want api.Done) {
	t.Helper()
	if got := a.Done(); got != want {
		t.Fatalf("it came to %+v, not %+v", got, want)
	}
}

// did is what an act of one who is alone came to.
func did(t *testing.T, e layout.Env, x api.Act) api.Done {
	t.Helper()
	a := begun(t, x)
	for most := 300 + 3*e.C.Chunks; !a.Step(e); most-- {
		if most < 0 {
			t.Fatalf("%+v is not done", x)
		}
	}
	return a.Done()
}

// wantStep does one step and asks that it touches that word alone, by Who, behind which it is w, changes no other, and tells whether it is done.
func wantStep(t *testing.T, e layout.Env, a *act.Act, addr int, w uint64, done bool) {
	t.Helper()
	now := e.Now()
	l := words(e.M)
	changed := l[addr] != w
	l[addr] = w
	// Somebody else did what was done ahead of it.
	e.M.By(e.Who + 1)
	if got := a.Step(e); got != done {
		t.Fatalf("at word %d: done is %v, not %v", addr, got, done)
	}
	if e.Now() != now+1 {
		t.Fatalf("at word %d: %d steps, not one", addr, e.Now()-now)
	}
	if last := (api.Touch{Addr: addr, Who: e.Who, Changed: changed}); e.M.Last() != last {
		t.Fatalf("noted is %v, not %v", e.M.Last(), last)
	}
	for a, w := range words(e.M) {
		if w != l[a] {
			t.Fatalf("at word %d: word %d is %#x, not %#x", addr, a, w, l[a])
		}
	}
}

// wantOn asks for a step behind which it is not done, and tells nothing.
func wantOn(t *testing.T, e layout.Env, a *act.Act, addr int, w uint64) {
	t.Helper()
	wantStep(t, e, a, addr, w, false)
	wantDone(t, a, api.Done{})
}

// wantLook asks for a step that loads a word.
func wantLook(t *testing.T, e layout.Env, a *act.Act, addr int) {
	t.Helper()
	wantOn(t, e, a, addr, e.M.Peek(addr))
}

// wantPinned asks for the steps by which the epoch is pinned.
func wantPinned(t *testing.T, e layout.Env, a *act.Act) {
	t.Helper()
	wantLook(t, e, a, epochAt)
	wantOn(t, e, a, pinAt(e.Who), e.M.Peek(epochAt)+1)
	wantLook(t, e, a, epochAt)
}

// wantSeen asks for those by which an object is seen: its slot's word, its head.
func wantSeen(t *testing.T, e layout.Env, a *act.Act, x thing) {
	t.Helper()
	wantLook(t, e, a, slotAt(e.C, x.slot))
	wantLook(t, e, a, x.addr)
}

// wantOut asks for the last step: the pin is laid 0; and what it came to.
func wantOut(t *testing.T, e layout.Env, a *act.Act, want api.Done) {
	t.Helper()
	wantStep(t, e, a, pinAt(e.Who), 0, true)
	wantDone(t, a, want)
	wantNoStep(t, e, func() {
		for range 3 {
			if !a.Step(e) {
				t.Fatal("it was done")
			}
			wantDone(t, a, want)
		}
	})
}

// wantNoStep asks that what is done touches nothing.
func wantNoStep(t *testing.T, e layout.Env, do func()) {
	t.Helper()
	now, last, l := e.Now(), e.M.Last(), words(e.M)
	do()
	if e.Now() != now || e.M.Last() != last || !slices.Equal(words(e.M), l) {
		t.Fatalf("%v: touched was %v", e.C, e.M.Last())
	}
}

// wantQuietStep asks for one that is not done, without a step of the memory.
func wantQuietStep(t *testing.T, e layout.Env, a *act.Act) {
	t.Helper()
	wantNoStep(t, e, func() {
		if a.Step(e) {
			t.Fatal("its pin is not laid 0")
		}
	})
	wantDone(t, a, api.Done{})
}

// wantGiven asks that the word that was touched last was given out, in a chunk that is not free, if it is one of a chunk's.
func wantGiven(t *testing.T, e layout.Env) {
	t.Helper()
	addr := e.M.Last().Addr
	i := chunkOf(e.C, addr)
	if i < 0 {
		return
	}
	w := e.M.Peek(chunkAt(e.C, i))
	if kindOf(w) == free || addr-baseAt(e.C, i) >= usedOf(w) {
		t.Fatalf("word %d of chunk %d, %#x, was touched by %d", addr-baseAt(e.C, i), i, w, e.M.Last().Who)
	}
}

// thing is an object: what it is, and where it stands.
type thing struct {
	slot, gen, state, ver int
	size                  int
	own                   bool
	addr                  int
}

// number is its handle as a number.
func (x thing) number() uint64 { return handle(x.slot, x.gen) }

// at is where one of its words stands.
func (x thing) at(k int) int { return x.addr + 1 + k }

// found is the object of a slot, as the memory tells it.
func found(e layout.Env, s int) thing {
	w := e.M.Peek(slotAt(e.C, s))
	h := e.M.Peek(addrOf(w))
	return thing{
		slot: s, gen: genOf(w), state: stateOf(w), ver: verOf(w),
		size: sizeOf(h), own: ownOf(h), addr: addrOf(w),
	}
}

// made is the object that a thread that is alone makes; each word is 50 and its number.
func made(t *testing.T, e layout.Env, size int, own bool) thing {
	t.Helper()
	d := did(t, e, makes(size, own))
	if d.E != api.OK {
		t.Fatal(d)
	}
	for k := range size {
		if d := did(t, e, writes(d.Handle, k, 50+k, own)); d.E != api.OK {
			t.Fatal(d)
		}
	}
	return found(e, int(d.Handle&(1<<16-1)))
}

// below is whoever of the layers below does an act.
type below interface {
	Step(e layout.Env) bool
	Done() api.Done
}

// teller is a thread that acts as the chapter's words tell it, in a memory of its own: what is done next. How the act is done the layers below tell it.
type teller struct {
	at    func(e layout.Env) bool
	epoch uint64 // as it was loaded last
	does  below
}

func newTeller(x api.Act) *teller {
	p := &teller{}
	switch x.Kind {
	case 1:
		p.does = alloc.New(x.Size, x.Own)
	case 2:
		p.does = drop.New(x.Handle, x.Own)
	case 3:
		p.does = access.New(api.Want{Kind: 1, Handle: x.Handle, Index: x.Index}, x.Own)
	case 4:
		p.does = access.New(api.Want{Kind: 2, Handle: x.Handle, Index: x.Index, Value: x.Value}, x.Own)
	case 5:
		p.does = access.New(api.Want{Kind: 3, Handle: x.Handle, Index: x.Index, Value: x.Value, Old: x.Old}, x.Own)
	}
	p.at = p.loading
	return p
}

func (p *teller) Step(e layout.Env) bool { return p.at(e) }

// loading: the epoch is loaded.
func (p *teller) loading(e layout.Env) bool {
	p.epoch = e.Load(epochAt)
	p.at = p.laying
	return false
}

// laying: the pin is that and 1.
func (p *teller) laying(e layout.Env) bool {
	e.Store(pinAt(e.Who), p.epoch+1)
	p.at = p.looking
	return false
}

// looking: the epoch is loaded once more; if it is another one, the pin is laid anew.
func (p *teller) looking(e layout.Env) bool {
	was := p.epoch
	p.epoch = e.Load(epochAt)
	p.at = p.laying
	if p.epoch == was {
		p.at = p.doing
	}
	return false
}

// doing: the act is done.
func (p *teller) doing(e layout.Env) bool {
	if p.does.Step(e) {
		p.at = p.leaving
	}
	return false
}

// leaving: the pin is laid 0.
func (p *teller) leaving(e layout.Env) bool {
	e.Store(pinAt(e.Who), 0)
	return true
}
