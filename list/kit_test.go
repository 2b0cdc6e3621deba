package list_test

import (
	"iter"
	"slices"
	"testing"

	"footlocker/act"
	"footlocker/api"
	"footlocker/layout"
	"footlocker/list"
	"footlocker/mem"
)

// arena is an arena of so many slots, and so many chunks of so many words.
func arena(slots, chunks, words int) api.Config {
	return api.Config{Threads: 3, Slots: slots, Chunks: chunks, Words: words, Gens: 999, Sparse: 600, Tries: 3}
}

// entered is a thread in a fresh arena.
func entered(t *testing.T, c api.Config, who int) layout.Env {
	t.Helper()
	m, e := layout.Fresh(c)
	if e != api.OK {
		t.Fatal(e)
	}
	return layout.Env{C: c, M: m, Who: who}
}

// by is somebody else in the same arena.
func by(e layout.Env, who int) layout.Env {
	e.Who = who
	return e
}

// Where the first free slot stands: behind the epoch.
const topAt = 1

// pinAt is where a thread's pin stands: behind those, and the four open chunks.
func pinAt(thread int) int { return 6 + thread }

// slotAt is where a slot's word stands, its link behind it: behind the pins, and the slots ahead of it.
func slotAt(c api.Config, s int) int {
	return pinAt(c.Threads) + 2*s
}

// chunkAt is where a chunk's word stands; liveAt, how many of its words live.
func chunkAt(c api.Config, i int) int {
	return slotAt(c, c.Slots) + 3*i
}
func liveAt(c api.Config, i int) int { return chunkAt(c, i) + 1 }

// baseAt is where a chunk's words stand.
func baseAt(c api.Config, i int) int {
	return chunkAt(c, c.Chunks) + c.Words*i
}

// chunkOf is the chunk in which a word is; below 0: it is in none.
func chunkOf(c api.Config, addr int) int {
	if addr < baseAt(c, 0) {
		return -1
	}
	return (addr - baseAt(c, 0)) / c.Words
}

// States of a slot's word, a kind of a head, a state of a chunk's word.
const (
	vacant   = 0
	live     = 1
	moving   = 2
	retired  = 3
	dropping = 4

	ready = 2

	free = 0
)

// What a slot's word has.
func stateOf(w uint64) int { return int(w & 7) }
func addrOf(w uint64) int  { return int(w >> 3 & (1<<20 - 1)) }
func genOf(w uint64) int   { return int(w >> 23 & (1<<16 - 1)) }

// What a chunk's word has.
func kindOf(w uint64) int { return int(w & 3) }
func usedOf(w uint64) int { return int(w >> 8 & (1<<20 - 1)) }

// What a head has.
func headOf(w uint64) int { return int(w & 3) }
func sizeOf(w uint64) int { return int(w >> 2 & (1<<16 - 1)) }
func ownOf(w uint64) bool { return w>>50&1 != 0 }

// valueOf is the value of a cell.
func valueOf(w uint64) int { return int(w & (1<<40 - 1)) }

// handle is a handle as a number.
func handle(s, gen int) uint64 { return uint64(s) | uint64(gen)<<16 }

// words is a memory's words, without a step.
func words(m *mem.Mem) []uint64 {
	l := make([]uint64, m.Len())
	for a := range l {
		l[a] = m.Peek(a)
	}
	return l
}

// mixed is a number below n, and what the next one is made of.
func mixed(x uint64, n int) (int, uint64) {
	x = x*6364136223846793005 + 1442695040888963407
	return int(x >> 33 % uint64(n)), x
}

// These are acts of lists.
func makes() api.Act { return api.Act{Kind: 1, Size: 2, Own: true} }

func frees(node uint64) api.Act { return api.Act{Kind: 2, Handle: node, Own: true} }

func reads(node uint64, k int) api.Act {
	return api.Act{Kind: 3, Handle: node, Index: k, Own: true}
}

func writes(node uint64, k, value int) api.Act {
	return api.Act{Kind: 4, Handle: node, Index: k, Value: value, Own: true}
}

func exchanges(node uint64, old, value int) api.Act {
	return api.Act{Kind: 5, Handle: node, Index: 1, Old: old, Value: value, Own: true}
}

// begun is one who does an act that may be.
func begun(t *testing.T, x api.Act) *act.Act {
	t.Helper()
	a, e := act.New(x)
	if e != api.OK {
		t.Fatalf("%+v: %v", x, e)
	}
	return a
}

// did is what an act of one who is alone came to.
func did(t *testing.T, e layout.Env, x api.Act) api.Done {
	t.Helper()
	a := begun(t, x)
	for most := 300 + 3*e.C.Chunks; !a.Step(e); most-- {
		if most < 0 {
			t.Fatalf("%+v is not done", x)
		}
	}
	return a.Done()
}

// Kinds of what is asked, and the bit that a node is to go.
const (
	has    = 1
	add    = 2
	remove = 3

	toGo = 1 << 32
)

// asks is one who asks something that may be.
func asks(t *testing.T, kind, key int, head uint64) *list.List {
	t.Helper()
	l, e := list.New(kind, key, head)
	if e != api.OK || l == nil {
		t.Fatalf("kind %d, key %d: %v", kind, key, e)
	}
	wantDone(t, l, api.Done{})
	return l
}

// wantDone asks what it came to.
func wantDone(t *testing.T, l *list.List, want api.Done) {
	t.Helper()
	if got := l.Done(); got != want {
		t.Fatalf("it came to %+v, not %+v", got, want)
	}
}

// wantNoStep asks that what is done touches nothing.
func wantNoStep(t *testing.T, e layout.Env, do func()) {
	t.Helper()
	now, last, l := e.Now(), e.M.Last(), words(e.M)
	do()
	if e.Now() != now || e.M.Last() != last || !slices.Equal(words(e.M), l) {
		t.Fatalf("%v: touched was %v", e.C, e.M.Last())
	}
}

// wantSafe asks that the word that was touched last, if it is one of a chunk's, was given out, in a chunk that is not free, and that a thread that did so is pinned.
func wantSafe(t *testing.T, e layout.Env) {
	t.Helper()
	last := e.M.Last()
	i := chunkOf(e.C, last.Addr)
	if i < 0 {
		return
	}
	w := e.M.Peek(chunkAt(e.C, i))
	if kindOf(w) == free || last.Addr-baseAt(e.C, i) >= usedOf(w) {
		t.Fatalf("word %d of chunk %d, %#x, was touched by %d", last.Addr-baseAt(e.C, i), i, w, last.Who)
	}
	if last.Who >= 0 && e.M.Peek(pinAt(last.Who)) == 0 {
		t.Fatalf("word %d of chunk %d was touched by %d, that is not pinned", last.Addr-baseAt(e.C, i), i, last.Who)
	}
}

// node is a node, as the memory tells it.
type node struct {
	handle uint64
	key    int
	link   int
}

// gone is whether it is to go.
func (n node) gone() bool { return n.link&toGo != 0 }

// lives is whether an object lives by a slot.
func lives(e layout.Env, s int) bool {
	switch stateOf(e.M.Peek(slotAt(e.C, s))) {
	case live, moving, dropping:
		return true
	}
	return false
}

// found is the node of a handle, that must be one: an object of two words, that is Own.
func found(t *testing.T, e layout.Env, n uint64) node {
	t.Helper()
	s := int(n & (1<<16 - 1))
	w := e.M.Peek(slotAt(e.C, s))
	h := e.M.Peek(addrOf(w))
	if !lives(e, s) || genOf(w) != int(n>>16) {
		t.Fatalf("%#x lives no more", n)
	}
	if headOf(h) != ready || sizeOf(h) != 2 || !ownOf(h) {
		t.Fatalf("%#x has the head %#x", n, h)
	}
	return node{n, valueOf(e.M.Peek(addrOf(w) + 1)), valueOf(e.M.Peek(addrOf(w) + 2))}
}

// walked is the nodes of a list, without the first one; those that are not to go are sorted.
func walked(t *testing.T, e layout.Env, head uint64) []node {
	t.Helper()
	var l []node
	last := -1
	for n := found(t, e, head); n.link&(toGo-1) != 0; {
		n = found(t, e, uint64(n.link&(toGo-1)))
		if n.key <= last && !n.gone() {
			t.Fatalf("key %d stands behind %d", n.key, last)
		}
		if !n.gone() {
			last = n.key
		}
		l = append(l, n)
		if len(l) > e.C.Slots {
			t.Fatal("the list has no end")
		}
	}
	return l
}

// keys is the keys of a list, of nodes that are not to go.
func keys(t *testing.T, e layout.Env, head uint64) []int {
	t.Helper()
	var l []int
	for _, n := range walked(t, e, head) {
		if !n.gone() {
			l = append(l, n.key)
		}
	}
	return l
}

// owned is how many objects live.
func owned(e layout.Env) int {
	n := 0
	for s := range e.C.Slots {
		if lives(e, s) {
			n++
		}
	}
	return n
}

// wantSlots asks that each slot of which no object lives can be taken, once, but for those that are retired.
func wantSlots(t *testing.T, e layout.Env) {
	t.Helper()
	seen := map[int]int{}
	for s := int(e.M.Peek(topAt)&(1<<17-1)) - 1; s >= 0; s = int(e.M.Peek(slotAt(e.C, s)+1)&(1<<17-1)) - 1 {
		if seen[s]++; seen[s] > 1 {
			t.Fatalf("slot %d is free twice", s)
		}
	}
	for s := range e.C.Slots {
		w := e.M.Peek(slotAt(e.C, s))
		if (seen[s] == 1) != (stateOf(w) == vacant) || !lives(e, s) && stateOf(w) != vacant && stateOf(w) != retired {
			t.Fatalf("slot %d, %#x, is free %d times", s, w, seen[s])
		}
	}
}

// other is somebody who does, in a memory of its own, what one who asks something of a list must do.
type other interface {
	Step(e layout.Env) bool
	came() api.Done
}

// teller asks something of a list as the chapter's words tell it, one act behind the other.
type teller struct {
	e    layout.Env
	next func() (struct{}, bool)
	wait func()
	done api.Done
}

func newTeller(kind, key int, head uint64) *teller {
	p := &teller{}
	p.next, _ = iter.Pull(func(yield func(struct{}) bool) {
		p.wait = func() { yield(struct{}{}) }
		p.done = p.ask(kind, key, head)
	})
	// Up to where its first step is waited for.
	p.next()
	return p
}

func (p *teller) came() api.Done { return p.done }

// Step lets it go on up to where its next step is waited for.
func (p *teller) Step(e layout.Env) bool {
	p.e = e
	_, more := p.next()
	return !more
}

// do does an act; ahead of each step it waits.
func (p *teller) do(x api.Act) api.Done {
	a, _ := act.New(x)
	for p.wait(); !a.Step(p.e); p.wait() {
	}
	return a.Done()
}

// place is where a key is, or would be: the step at which it is known, the node ahead and its link, the node there and its link.
type place struct {
	there     bool
	at        int
	ahead     uint64
	aheadLink int
	here      uint64
	hereLink  int
}

// look looks for a key.
func (p *teller) look(key int, head uint64) (place, api.Done) {
anew:
	for {
		first := p.do(reads(head, 1))
		if first.E != api.OK {
			return place{}, first
		}
		s := place{ahead: head, aheadLink: first.Value, at: first.Stamp}
		for {
			s.here = uint64(s.aheadLink) % toGo
			if s.here == 0 {
				return s, api.Done{}
			}
			link := p.do(reads(s.here, 1))
			if link.E != api.OK {
				continue anew
			}
			if link.Value >= toGo {
				past := p.do(exchanges(s.ahead, s.aheadLink, link.Value-toGo))
				if past.E != api.OK {
					continue anew
				}
				p.do(frees(s.here))
				s.aheadLink, s.at = link.Value-toGo, past.Stamp
				continue
			}
			is := p.do(reads(s.here, 0))
			if is.E != api.OK {
				continue anew
			}
			if is.Value < key {
				s.ahead, s.aheadLink, s.at = s.here, link.Value, link.Stamp
				continue
			}
			if is.Value == key {
				s.there, s.at, s.hereLink = true, link.Stamp, link.Value
			}
			return s, api.Done{}
		}
	}
}

// ask asks it.
func (p *teller) ask(kind, key int, head uint64) api.Done {
	switch kind {
	case add:
		return p.add(key, head)
	case remove:
		return p.remove(key, head)
	}
	s, bad := p.look(key, head)
	if bad.E != api.OK || !s.there {
		return api.Done{E: bad.E, Stamp: max(s.at, bad.Stamp)}
	}
	return api.Done{Value: 1, Stamp: s.at}
}

// add lets a key come in.
func (p *teller) add(key int, head uint64) api.Done {
	made := uint64(0)
	for {
		s, bad := p.look(key, head)
		if bad.E != api.OK || s.there {
			if made != 0 {
				p.do(frees(made))
			}
			return api.Done{E: bad.E, Stamp: max(s.at, bad.Stamp)}
		}
		if made == 0 {
			d := p.do(makes())
			if d.E != api.OK {
				return d
			}
			made = d.Handle
			p.do(writes(made, 0, key))
		}
		p.do(writes(made, 1, int(s.here)))
		if d := p.do(exchanges(s.ahead, s.aheadLink, int(made))); d.E == api.OK {
			return api.Done{Value: 1, Stamp: d.Stamp}
		}
	}
}

// remove lets a key go.
func (p *teller) remove(key int, head uint64) api.Done {
	for {
		s, bad := p.look(key, head)
		if bad.E != api.OK || !s.there {
			return api.Done{E: bad.E, Stamp: max(s.at, bad.Stamp)}
		}
		d := p.do(exchanges(s.here, s.hereLink, s.hereLink+toGo))
		if d.E != api.OK {
			continue
		}
		if past := p.do(exchanges(s.ahead, s.aheadLink, s.hereLink)); past.E == api.OK {
			p.do(frees(s.here))
		}
		return api.Done{Value: 1, Stamp: d.Stamp}
	}
}

// script does acts that are written out, one behind the other; it comes to a value, at the step of one of them.
type script struct {
	acts  []api.Act
	which int
	what  api.Done
	a     *act.Act
	at    int
}

func (s *script) came() api.Done { return s.what }

func (s *script) Step(e layout.Env) bool {
	if s.a == nil {
		s.a, _ = act.New(s.acts[s.at])
	}
	if !s.a.Step(e) {
		return false
	}
	if s.at == s.which {
		s.what.Stamp = s.a.Done().Stamp
	}
	s.a = nil
	s.at++
	return s.at == len(s.acts)
}
