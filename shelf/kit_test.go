package shelf_test

import (
	"slices"
	"testing"

	"footlocker/act"
	"footlocker/api"
	"footlocker/layout"
	"footlocker/list"
	"footlocker/mem"
	"footlocker/shelf"
	"footlocker/word"
)

// Kinds of what is asked, how many lists a shelf may have, and below what keys are.
const (
	has    = 1
	add    = 2
	remove = 3

	mostLists = 8
	mostKey   = 1 << 30
)

// arena is an arena of so many slots, and so many chunks of so many words.
func arena(slots, chunks, words int) api.Config {
	return api.Config{Threads: 3, Slots: slots, Chunks: chunks, Words: words, Gens: 999, Sparse: 600, Tries: 3}
}

// entered is a thread in a fresh arena.
func entered(t *testing.T, c api.Config, who int) layout.Env {
	t.Helper()
	m, e := layout.Fresh(c)
	if e != api.OK {
		t.Fatal(e)
	}
	return layout.Env{C: c, M: m, Who: who}
}

// by is somebody else in the same arena.
func by(e layout.Env, who int) layout.Env {
	e.Who = who
	return e
}

// words is a memory's words, without a step.
func words(m *mem.Mem) []uint64 {
	l := make([]uint64, m.Len())
	for a := range l {
		l[a] = m.Peek(a)
	}
	return l
}

// mixed is a number below n, and what the next one is made of.
func mixed(x uint64, n int) (int, uint64) {
	x = x*6364136223846793005 + 1442695040888963407
	return int(x >> 33 % uint64(n)), x
}

// wantNoStep asks that something touches nothing.
func wantNoStep(t *testing.T, e layout.Env, do func()) {
	t.Helper()
	now, last, l := e.Now(), e.M.Last(), words(e.M)
	do()
	if e.Now() != now || e.M.Last() != last || !slices.Equal(words(e.M), l) {
		t.Fatalf("%v: touched was %v", e.C, e.M.Last())
	}
}

// wantSame asks that the same was done in two memories.
func wantSame(t *testing.T, a, b layout.Env) {
	t.Helper()
	if a.Now() != b.Now() || a.M.Last() != b.M.Last() {
		t.Fatalf("%v: %d steps, the last one %v, not %d, %v", a.C, a.Now(), a.M.Last(), b.Now(), b.M.Last())
	}
	if !slices.Equal(words(a.M), words(b.M)) {
		t.Fatalf("%v: the words are others", a.C)
	}
}

// did is what an act of one who is alone came to.
func did(t *testing.T, e layout.Env, x api.Act) api.Done {
	t.Helper()
	a, err := act.New(x)
	if err != api.OK {
		t.Fatalf("%+v: %v", x, err)
	}
	for most := 9999; !a.Step(e); most-- {
		if most < 0 {
			t.Fatalf("%v: %+v is not done", e.C, x)
		}
	}
	return a.Done()
}

// makes is the act by which a node is made.
func makes() api.Act { return api.Act{Kind: 1, Size: 2, Own: true} }

// nodes makes so many nodes, one behind the other, or as many as there can be.
func nodes(t *testing.T, e layout.Env, n int) ([]uint64, api.Errno) {
	t.Helper()
	var l []uint64
	for range n {
		d := did(t, e, makes())
		if d.E != api.OK {
			return nil, d.E
		}
		l = append(l, d.Handle)
	}
	return l, api.OK
}

// made is a shelf of so many lists, that must be.
func made(t *testing.T, e layout.Env, lists int) *shelf.Shelf {
	t.Helper()
	s, err := shelf.Fresh(e, lists)
	if err != api.OK || s == nil {
		t.Fatalf("%v: %d lists: %v", e.C, lists, err)
	}
	return s
}

// run lets one who asks something of a list work on, alone, till it is done: what it came to.
func run(t *testing.T, e layout.Env, l *list.List) api.Done {
	t.Helper()
	for most := 99999; !l.Step(e); most-- {
		if most < 0 {
			t.Fatalf("%v: it is not done", e.C)
		}
	}
	return l.Done()
}

// asks is one who asks something of a shelf, that may be.
func asks(t *testing.T, s *shelf.Shelf, kind, key int) *list.List {
	t.Helper()
	l, e := s.New(kind, key)
	if e != api.OK || l == nil {
		t.Fatalf("kind %d, key %d: %v", kind, key, e)
	}
	if d := l.Done(); d != (api.Done{}) {
		t.Fatalf("kind %d, key %d came to %+v ahead of its first step", kind, key, d)
	}
	return l
}

// node is a node, as the memory tells it: its key, and its link.
type node struct {
	key  int
	link api.Link
}

// found is the node of a handle, that must be one: a live object of two words, that is Own. Whoever moves it may not have laid its head Ready yet.
func found(t *testing.T, e layout.Env, n uint64) node {
	t.Helper()
	h, is := word.Handle(n)
	w := word.Slot(e.M.Peek(layout.Slot(e.C, h.Slot)))
	head := word.Head(e.M.Peek(w.Addr))
	if !is || h.Slot >= e.C.Slots || w.Gen != h.Gen || w.State != api.StateLive && w.State != api.StateMoving {
		t.Fatalf("%#x does not live: %+v", n, w)
	}
	if head.Kind == api.HeadPending {
		head.Kind = api.HeadReady
	}
	if head != (api.Head{Kind: api.HeadReady, Size: 2, Slot: h.Slot, Gen: h.Gen, Own: true}) {
		t.Fatalf("%#x has the head %+v", n, head)
	}
	cell := func(k int) int { return word.Cell(e.M.Peek(w.Addr + 1 + k)).Value }
	return node{cell(0), list.Link(cell(1))}
}

// keys is the keys of the list that begins at a node, of nodes that are not to go; they must be sorted.
func keys(t *testing.T, e layout.Env, head uint64) []int {
	t.Helper()
	var l []int
	most := e.C.Slots
	for n := found(t, e, head); n.link.Next != 0; most-- {
		if n = found(t, e, n.link.Next); !n.link.Gone {
			l = append(l, n.key)
		}
		if most < 0 {
			t.Fatal("the list has no end")
		}
	}
	if !slices.IsSorted(l) {
		t.Fatalf("the keys are %v", l)
	}
	return l
}

// wantKeys asks that a shelf has these keys, each in its own list, and once, and no other ones.
func wantKeys(t *testing.T, e layout.Env, s *shelf.Shelf, set map[int]int) {
	t.Helper()
	n := 0
	for i, head := range s.Heads() {
		l := keys(t, e, head)
		for _, key := range l {
			if place(key, s.Lists()) != i || set[key] != 1 {
				t.Fatalf("key %d is in list %d of %d, of %v", key, i, s.Lists(), set)
			}
		}
		if n += len(l); len(slices.Compact(l)) != len(l) {
			t.Fatalf("the keys are %v", l)
		}
	}
	if n != len(set) {
		t.Fatalf("%d keys are there, not those of %v", n, set)
	}
}

// once asks something at once of a plain set: what must be told. That there is no handle, or no room, may be told in the place of a key.
func once(set map[int]int, kind, key int, told api.Errno) api.Done {
	if kind == add && (told == api.ErrHandles || told == api.ErrMemory) {
		return api.Done{E: told}
	}
	was := set[key]
	switch kind {
	case add:
		set[key] = 1
		return api.Done{Value: 1 - was}
	case remove:
		delete(set, key)
	}
	return api.Done{Value: was}
}
