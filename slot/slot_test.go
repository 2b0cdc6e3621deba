package slot_test

import (
	"slices"
	"testing"

	"footlocker/api"
	"footlocker/layout"
	"footlocker/mem"
	"footlocker/slot"
)

// arena is an arena of so many slots.
func arena(slots int) api.Config {
	return api.Config{Threads: 3, Slots: slots, Chunks: 2, Words: 20, Gens: 9, Sparse: 600, Tries: 3}
}

// entered is somebody in a fresh arena.
func entered(t *testing.T, slots, who int) layout.Env {
	t.Helper()
	c := arena(slots)
	m, e := layout.Fresh(c)
	if e != api.OK {
		t.Fatal(e)
	}
	return layout.Env{C: c, M: m, Who: who}
}

// filled is somebody in a fresh arena of which no two words are the same, but for the first free slot's and the links: a word that is changed by mistake, or loaded in the place of a link, is seen.
func filled(t *testing.T, slots, who int) layout.Env {
	t.Helper()
	e := entered(t, slots, who)
	kept := []int{topAt}
	for s := range slots {
		kept = append(kept, linkAt(e.C, s))
	}
	for a := range e.M.Len() {
		if !slices.Contains(kept, a) {
			e.M.Store(a, 1<<60+uint64(a))
		}
	}
	return e
}

// The first free slot's word stands behind the epoch.
const topAt = 1

// linkAt is where a slot's link stands: behind the epoch, the first free slot, four open chunks, the pins, the slots ahead of it and its word.
func linkAt(c api.Config, s int) int {
	return 6 + c.Threads + 2*s + 1
}

// top is the word of a first free slot (-1: none), and a count.
func top(s int, count uint64) uint64 {
	return uint64(s+1) | count<<17
}

// first is the first free slot of such a word; -1: none.
func first(w uint64) int {
	return int(w&(1<<17-1)) - 1
}

// count is the count of such a word.
func count(w uint64) uint64 {
	return w >> 17
}

// words is a memory's words, without a step.
func words(m *mem.Mem) []uint64 {
	l := make([]uint64, m.Len())
	for a := range l {
		l[a] = m.Peek(a)
	}
	return l
}

// freeOnes is the free slots, the first one first, as the links tell them; a slot that comes twice ends them.
func freeOnes(e layout.Env) []int {
	var l []int
	for s := first(e.M.Peek(topAt)); s >= 0; s = first(e.M.Peek(linkAt(e.C, s))) {
		l = append(l, s)
		if len(l) > e.C.Slots {
			break
		}
	}
	return l
}

// wantFree asks which slots are free, the first one first.
func wantFree(t *testing.T, e layout.Env, want ...int) {
	t.Helper()
	if l := freeOnes(e); !slices.Equal(l, want) {
		t.Fatalf("free are %v, not %v", l, want)
	}
}

// touch is what one step must do: to which word it is done, and what that word is behind it.
type touch struct {
	addr int
	w    uint64
}

// wantStep does one step and asks that it touches that word alone, by Who, changes no other, and tells whether it is done.
func wantStep(t *testing.T, e layout.Env, step func(layout.Env) bool, want touch, done bool) {
	t.Helper()
	now := e.Now()
	l := words(e.M)
	changed := l[want.addr] != want.w
	l[want.addr] = want.w
	// Somebody else did what was done ahead of it.
	e.M.By(e.Who + 1)
	if got := step(e); got != done {
		t.Fatalf("by %d at word %d: done is %v, not %v", e.Who, want.addr, got, done)
	}
	if e.Now() != now+1 {
		t.Fatalf("by %d at word %d: %d steps, not one", e.Who, want.addr, e.Now()-now)
	}
	if last := (api.Touch{Addr: want.addr, Who: e.Who, Changed: changed}); e.M.Last() != last {
		t.Fatalf("noted is %v, not %v", e.M.Last(), last)
	}
	if !slices.Equal(words(e.M), l) {
		t.Fatalf("by %d at word %d: the words are %v, not %v", e.Who, want.addr, words(e.M), l)
	}
}

// wantSlot asks what somebody took.
func wantSlot(t *testing.T, k *slot.Take, want int, is bool) {
	t.Helper()
	if s, ok := k.Slot(); s != want || ok != is {
		t.Fatalf("the slot is %d, %v, not %d, %v", s, ok, want, is)
	}
}

// wantTaken asks that somebody who begins now, and whom nobody disturbs, takes that slot in three steps.
func wantTaken(t *testing.T, e layout.Env, s int) {
	t.Helper()
	k := &slot.Take{}
	w := e.M.Peek(topAt)
	linked := e.M.Peek(linkAt(e.C, s))
	wantSlot(t, k, 0, false)
	wantStep(t, e, k.Step, touch{topAt, top(s, count(w))}, false)
	wantSlot(t, k, 0, false)
	wantStep(t, e, k.Step, touch{linkAt(e.C, s), linked}, false)
	wantSlot(t, k, 0, false)
	wantStep(t, e, k.Step, touch{topAt, top(first(linked), count(w)+1)}, true)
	wantSlot(t, k, s, true)
}

// wantGiven asks that somebody who begins now, and whom nobody disturbs, gives that slot in three steps.
func wantGiven(t *testing.T, e layout.Env, s int) {
	t.Helper()
	g := slot.NewGive(s)
	w := e.M.Peek(topAt)
	wantStep(t, e, g.Step, touch{topAt, w}, false)
	wantStep(t, e, g.Step, touch{linkAt(e.C, s), top(first(w), 0)}, false)
	wantStep(t, e, g.Step, touch{topAt, top(s, count(w)+1)}, true)
}

// wantNone asks that somebody who begins now finds nothing free, in one step.
func wantNone(t *testing.T, e layout.Env) {
	t.Helper()
	k := &slot.Take{}
	w := e.M.Peek(topAt)
	if first(w) != -1 {
		t.Fatal("there is a free one:", first(w))
	}
	wantStep(t, e, k.Step, touch{topAt, w}, true)
	wantSlot(t, k, 0, false)
}

func TestExampleOfTheChapter(t *testing.T) {
	e := entered(t, 8, 0)
	now := e.Now()
	k := &slot.Take{}
	for i, done := range []bool{false, false, true} {
		if k.Step(e) != done {
			t.Errorf("step %d: done is not %v", i+1, done)
		}
	}
	wantSlot(t, k, 0, true)
	if e.Now() != now+3 {
		t.Error(e.Now() - now)
	}
}

func TestSlotsAreTakenTheFirstOneFirst(t *testing.T) {
	for slots := 1; slots <= 20; slots++ {
		e := filled(t, slots, slots%3)
		for s := range slots {
			wantTaken(t, e, s)
			if w := e.M.Peek(topAt); count(w) != uint64(s+1) {
				t.Fatalf("behind slot %d the count is %d", s, count(w))
			}
		}
		wantFree(t, e)
		wantNone(t, e)
	}
}

func TestSlotsComeLastInFirstOut(t *testing.T) {
	e := filled(t, 4, 1)
	for s := range 4 {
		wantTaken(t, e, s)
	}
	wantGiven(t, e, 2)
	wantGiven(t, e, 0)
	wantGiven(t, e, 3)
	wantFree(t, e, 3, 0, 2)
	wantTaken(t, e, 3)
	wantGiven(t, e, 1)
	wantFree(t, e, 1, 0, 2)
	wantTaken(t, e, 1)
	wantTaken(t, e, 0)
	wantTaken(t, e, 2)
	wantNone(t, e)
	wantGiven(t, e, 0)
	wantFree(t, e, 0)
	wantTaken(t, e, 0)
	wantNone(t, e)
}

func TestTheLastOneIsTheFirstOneOfManyToo(t *testing.T) {
	e := filled(t, 6, 2)
	for s := range 3 {
		wantTaken(t, e, s)
	}
	for s := range 3 {
		wantGiven(t, e, s)
	}
	wantFree(t, e, 2, 1, 0, 3, 4, 5)
	for _, s := range []int{2, 1, 0, 3, 4, 5} {
		wantTaken(t, e, s)
	}
	wantNone(t, e)
}

func TestOneSlotAgainAndAgain(t *testing.T) {
	e := filled(t, 1, 0)
	for i := range uint64(200) {
		wantTaken(t, e, 0)
		wantNone(t, e)
		wantGiven(t, e, 0)
		if w := e.M.Peek(topAt); w != top(0, 2*i+2) {
			t.Fatalf("behind %d turns it is slot %d, count %d", i+1, first(w), count(w))
		}
	}
}

func TestNoneIsFreeHoweverOftenItIsTried(t *testing.T) {
	e := filled(t, 2, 0)
	wantTaken(t, e, 0)
	wantTaken(t, e, 1)
	for who := range 3 {
		e.Who = who
		for range 20 {
			wantNone(t, e)
		}
	}
	if w := e.M.Peek(topAt); w != top(-1, 2) {
		t.Error("to find none changed the count:", count(w))
	}
}

func TestCountsGoOn(t *testing.T) {
	for _, n := range []uint64{0, 1, 2, 1<<16 - 1, 1 << 16, 1<<31 - 1, 1 << 31, 1<<32 - 1, 1 << 35, api.MostStamp - 2} {
		e := filled(t, 3, 1)
		e.M.Store(topAt, top(0, n))
		wantTaken(t, e, 0)
		wantGiven(t, e, 0)
		if w := e.M.Peek(topAt); w != top(0, n+2) {
			t.Errorf("from %d on: slot %d, count %d", n, first(w), count(w))
		}
	}
}

func TestCountsThatNothingIsBehind(t *testing.T) {
	// A count has no more bits; the slot is taken and given all the same.
	e := filled(t, 3, 1)
	e.M.Store(topAt, top(0, api.MostStamp))
	k := &slot.Take{}
	for i, done := range []bool{false, false, true} {
		if k.Step(e) != done {
			t.Errorf("step %d: done is not %v", i+1, done)
		}
	}
	wantSlot(t, k, 0, true)
	wantFree(t, e, 1, 2)
}

func TestWhatALinkCountsIsNotSeen(t *testing.T) {
	e := filled(t, 3, 1)
	e.M.Store(linkAt(e.C, 0), top(1, 77))
	wantTaken(t, e, 0)
	if w := e.M.Peek(topAt); w != top(1, 1) {
		t.Errorf("slot %d, count %d", first(w), count(w))
	}
	// Nor does a link keep what it was.
	wantGiven(t, e, 0)
	if w := e.M.Peek(linkAt(e.C, 0)); w != top(1, 0) {
		t.Errorf("the link is slot %d, count %d", first(w), count(w))
	}
}

func TestAllSlotsOfTheGreatestArena(t *testing.T) {
	e := entered(t, api.MostSlots, 2)
	for s := range api.MostSlots {
		if got := takes(t, e); got != s {
			t.Fatalf("taken was %d, not %d", got, s)
		}
	}
	wantNone(t, e)
	for s := range api.MostSlots {
		gives(t, e, s)
	}
	for s := api.MostSlots - 1; s >= 0; s-- {
		if got := takes(t, e); got != s {
			t.Fatalf("taken was %d, not %d", got, s)
		}
	}
	wantNone(t, e)
}

// takes is the slot that is taken in three steps.
func takes(t *testing.T, e layout.Env) int {
	t.Helper()
	k := &slot.Take{}
	if k.Step(e) || k.Step(e) || !k.Step(e) {
		t.Fatal("alone a slot is taken in three steps")
	}
	s, is := k.Slot()
	if !is {
		t.Fatal("there was a free one")
	}
	return s
}

// gives gives a slot in three steps.
func gives(t *testing.T, e layout.Env, s int) {
	t.Helper()
	g := slot.NewGive(s)
	if g.Step(e) || g.Step(e) || !g.Step(e) {
		t.Fatal("alone a slot is given in three steps")
	}
}

func TestWhatIsDoneStaysDone(t *testing.T) {
	e := filled(t, 3, 0)
	k, g := &slot.Take{}, slot.NewGive(0)
	for !k.Step(e) {
	}
	for !g.Step(e) {
	}
	wantTaken(t, e, 0)
	wantTaken(t, e, 1)
	wantTaken(t, e, 2)
	in := &slot.Take{}
	in.Step(e)
	wantGiven(t, e, 1)
	now, last, l := e.Now(), e.M.Last(), words(e.M)
	for range 5 {
		if !k.Step(e) || !g.Step(e) || !in.Step(e) {
			t.Error("all were done")
		}
		wantSlot(t, k, 0, true)
		wantSlot(t, in, 0, false)
	}
	if e.Now() != now || e.M.Last() != last || !slices.Equal(words(e.M), l) {
		t.Error("who is done does nothing any more", e.M.Last())
	}
}

func TestNobodyTakesOrGives(t *testing.T) {
	e := filled(t, 3, 1)
	now, last, l := e.Now(), e.M.Last(), words(e.M)
	var k *slot.Take
	var g *slot.Give
	for range 5 {
		if !k.Step(e) || !k.Step(layout.Env{}) || !g.Step(e) || !g.Step(layout.Env{}) {
			t.Error("a nil one has nothing to do")
		}
		wantSlot(t, k, 0, false)
	}
	if e.Now() != now || e.M.Last() != last || !slices.Equal(words(e.M), l) {
		t.Error("a nil one touched", e.M.Last())
	}
}

func TestTakesAndGivesShareNothing(t *testing.T) {
	e := filled(t, 4, 0)
	// A copy goes its own way.
	half := slot.Take{}
	half.Step(e)
	half.Step(e)
	other := half
	if !half.Step(e) || other.Step(e) {
		t.Error("one of both")
	}
	wantSlot(t, &half, 0, true)
	wantSlot(t, &other, 0, false)
	for !other.Step(e) {
	}
	wantSlot(t, &other, 1, true)
	one, two := slot.NewGive(0), slot.NewGive(1)
	for !one.Step(e) {
	}
	for !two.Step(e) {
	}
	wantFree(t, e, 1, 0, 2, 3)
}
