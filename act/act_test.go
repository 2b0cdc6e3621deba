package act_test

import (
	"math"
	"slices"
	"testing"

	"footlocker/act"
	"footlocker/api"
	"footlocker/layout"
)

const most = 1<<40 - 1

// values is numbers that may be laid, and such that may not.
func values() ([]int, []int) {
	return []int{0, 1, 2, 77, 1 << 16, 1 << 32, most - 1, most},
		[]int{math.MinInt, math.MinInt + 1, -1 << 41, -1 << 40, -most, -2, -1, most + 1, most + 2, 1<<41 - 1, 1 << 41, 1 << 62, math.MaxInt - 1, math.MaxInt}
}

// wantMay asks whether an act may be, and that New says the same.
func wantMay(t *testing.T, x api.Act, may bool) {
	t.Helper()
	if got := act.Check(x); got != may {
		t.Fatalf("%+v: %v", x, got)
	}
	a, e := act.New(x)
	if may {
		if e != api.OK || a == nil {
			t.Fatalf("%+v: %v", x, e)
		}
		wantDone(t, a, api.Done{})
		return
	}
	if e != api.ErrInput || a != nil {
		t.Fatalf("%+v: %v, %v", x, a, e)
	}
}

func TestKinds(t *testing.T) {
	for kind := -300; kind <= 300; kind++ {
		wantMay(t, api.Act{Kind: kind}, kind >= 1 && kind <= 5)
	}
	for _, kind := range []int{math.MinInt, math.MinInt + 1, math.MinInt + 5, -1 << 32, 1 << 16, 1 << 32, 1<<32 + 1, 1<<32 + 5, math.MaxInt - 1, math.MaxInt} {
		wantMay(t, api.Act{Kind: kind}, false)
	}
	if api.ActAlloc != 1 || api.ActFree != 2 || api.ActRead != 3 || api.ActWrite != 4 || api.ActCas != 5 {
		t.Error("the kinds are others")
	}
}

func TestValuesAndOlds(t *testing.T) {
	good, bad := values()
	// Whether the kind needs them or not.
	for kind := 0; kind <= 6; kind++ {
		is := kind >= 1 && kind <= 5
		for _, v := range good {
			for _, old := range good {
				wantMay(t, api.Act{Kind: kind, Value: v, Old: old}, is)
			}
			for _, old := range bad {
				wantMay(t, api.Act{Kind: kind, Value: v, Old: old}, false)
				wantMay(t, api.Act{Kind: kind, Value: old, Old: v}, false)
			}
		}
		for _, v := range bad {
			for _, old := range bad {
				wantMay(t, api.Act{Kind: kind, Value: v, Old: old}, false)
			}
		}
	}
}

func TestAllElseMayBe(t *testing.T) {
	// A size, a handle or an index is asked for only when it is done.
	for kind := 0; kind <= 6; kind++ {
		for _, n := range odd() {
			for _, own := range []bool{false, true} {
				wantMay(t, api.Act{Kind: kind, Size: n, Own: own}, kind >= 1 && kind <= 5)
				wantMay(t, api.Act{Kind: kind, Index: n, Own: own}, kind >= 1 && kind <= 5)
				wantMay(t, api.Act{Kind: kind, Handle: uint64(n), Own: own}, kind >= 1 && kind <= 5)
				wantMay(t, api.Act{Kind: kind, Handle: uint64(n), Index: n, Size: n, Own: own, Value: most, Old: most}, kind >= 1 && kind <= 5)
			}
		}
	}
}

func TestNewDoesNothing(t *testing.T) {
	e := entered(t, arena(4, 3, 20), 1)
	wantNoStep(t, e, func() {
		for kind := -1; kind <= 7; kind++ {
			x := api.Act{Kind: kind, Size: 2}
			act.Check(x)
			if a, _ := act.New(x); a != nil {
				a.Done()
			}
		}
	})
}

// later is an arena in which an epoch is on, and other threads are pinned.
func later(t *testing.T, c api.Config, who int, epoch uint64) layout.Env {
	t.Helper()
	e := entered(t, c, who)
	e.M.Store(epochAt, epoch)
	for i := range c.Threads {
		if i != who {
			e.M.Store(pinAt(i), epoch+1-uint64(i%2))
		}
	}
	return e
}

// epochs is some of them; the last one wraps round.
func epochs() []uint64 { return []uint64{0, 1, 2, 77, 1 << 32, 1<<63 - 1, 1<<64 - 2} }

func TestMake(t *testing.T) {
	// Size 2 in a fresh arena: the pin, a slot, words of a chunk that is opened, the object, and the pin.
	for _, epoch := range epochs() {
		for who := range 3 {
			e := later(t, arena(4, 3, 20), who, epoch)
			own := who == 1
			a := begun(t, makes(2, own))
			wantPinned(t, e, a)
			wantLook(t, e, a, topAt)
			wantLook(t, e, a, slotAt(e.C, 0)+1)
			wantOn(t, e, a, topAt, 2+1<<17)
			wantLook(t, e, a, slotAt(e.C, 0))
			wantLook(t, e, a, openAt(0))
			wantLook(t, e, a, chunkAt(e.C, 0))
			wantOn(t, e, a, chunkAt(e.C, 0), 1+1<<28)
			wantOn(t, e, a, openAt(0), 1)
			wantLaidOut(t, e, a, own, 0)
		}
	}
}

func TestMakeInAnOpenChunk(t *testing.T) {
	for _, own := range []bool{false, true} {
		e := entered(t, arena(4, 3, 20), 1)
		made(t, e, 2, !own)
		a := begun(t, makes(2, own))
		wantPinned(t, e, a)
		wantLook(t, e, a, topAt)
		wantLook(t, e, a, slotAt(e.C, 1)+1)
		wantOn(t, e, a, topAt, 3+2<<17)
		wantLook(t, e, a, slotAt(e.C, 1))
		wantLaidOut(t, e, a, own, 1)
	}
}

// wantLaidOut asks for the steps by which words of the open chunk are got, the object of that slot is laid there, and shown; then the pin is 0.
func wantLaidOut(t *testing.T, e layout.Env, a *act.Act, own bool, s int) {
	t.Helper()
	at := baseAt(e.C, 0) + 3*s
	wantLook(t, e, a, openAt(0))
	wantLook(t, e, a, chunkAt(e.C, 0))
	wantOn(t, e, a, chunkAt(e.C, 0), e.M.Peek(chunkAt(e.C, 0))+3<<8)
	wantOn(t, e, a, liveAt(e.C, 0), uint64(3*s+3))
	wantOn(t, e, a, at, head(pending, 2, s, 1, own))
	wantOn(t, e, a, slotAt(e.C, s), slotWord(live, at, 1, 0))
	now := e.Now()
	wantOn(t, e, a, at, head(ready, 2, s, 1, own))
	wantOut(t, e, a, api.Done{Handle: handle(s, 1), Stamp: now})
}

func TestRead(t *testing.T) {
	for _, own := range []bool{false, true} {
		for size := 1; size <= api.MostSize; size++ {
			e := entered(t, arena(4, 3, 20), 2)
			x := made(t, e, size, own)
			for k := range size {
				a := begun(t, reads(x.number(), k, own))
				wantPinned(t, e, a)
				wantSeen(t, e, a, x)
				wantLook(t, e, a, x.at(k))
				now := e.Now()
				wantLook(t, e, a, slotAt(e.C, x.slot))
				wantOut(t, e, a, api.Done{Value: 50 + k, Stamp: now})
			}
		}
	}
}

func TestWrite(t *testing.T) {
	good, _ := values()
	for _, own := range []bool{false, true} {
		for size := 1; size <= api.MostSize; size++ {
			e := entered(t, arena(4, 3, 20), 1)
			x := made(t, e, size, own)
			for k := range size {
				was := 50 + k
				for _, v := range good {
					a := begun(t, writes(x.number(), k, v, own))
					wantPinned(t, e, a)
					wantSeen(t, e, a, x)
					wantLook(t, e, a, x.at(k))
					wantOn(t, e, a, x.at(k), uint64(v))
					wantOut(t, e, a, api.Done{Value: was, Stamp: e.Now()})
					was = v
				}
			}
		}
	}
}

func TestExchange(t *testing.T) {
	good, _ := values()
	for _, own := range []bool{false, true} {
		for size := 1; size <= api.MostSize; size += 3 {
			e := entered(t, arena(4, 3, 20), 0)
			x := made(t, e, size, own)
			for k := range size {
				was := 50 + k
				for _, v := range good {
					a := begun(t, exchanges(x.number(), k, was, v, own))
					wantPinned(t, e, a)
					wantSeen(t, e, a, x)
					wantLook(t, e, a, x.at(k))
					wantOn(t, e, a, x.at(k), uint64(v))
					wantOut(t, e, a, api.Done{Value: was, Stamp: e.Now()})
					was = v
					wantOther(t, e, x, k, was)
				}
			}
		}
	}
}

// wantOther asks that a word is not exchanged, as another value is there, and which one.
func wantOther(t *testing.T, e layout.Env, x thing, k, is int) {
	t.Helper()
	good, _ := values()
	for _, old := range good {
		if old == is {
			continue
		}
		a := begun(t, exchanges(x.number(), k, old, 3, x.own))
		wantPinned(t, e, a)
		wantSeen(t, e, a, x)
		wantLook(t, e, a, x.at(k))
		now := e.Now()
		wantLook(t, e, a, slotAt(e.C, x.slot))
		wantOut(t, e, a, api.Done{E: api.ErrOther, Value: is, Stamp: now})
	}
}

func TestLetGo(t *testing.T) {
	for _, own := range []bool{false, true} {
		for size := 1; size <= api.MostSize; size++ {
			e := entered(t, arena(4, 3, 20), 1)
			x := made(t, e, size, own)
			at, top := slotAt(e.C, x.slot), e.M.Peek(topAt)
			a := begun(t, frees(x.number(), own))
			wantPinned(t, e, a)
			wantSeen(t, e, a, x)
			wantOn(t, e, a, at, slotWord(dropping, x.addr, 1, 1))
			for k := range size {
				wantLook(t, e, a, x.at(k))
				wantOn(t, e, a, x.at(k), frozen(50+k, 1))
			}
			wantOn(t, e, a, at, slotWord(vacant, 0, 2, 0))
			now := e.Now()
			wantOn(t, e, a, liveAt(e.C, 0), 0)
			wantLook(t, e, a, topAt)
			// Slot 1 is the next free one behind it: as a link that and 1, without a count.
			wantOn(t, e, a, at+1, 2)
			// Slot 0 is the first one again, and the count beside it one more.
			wantOn(t, e, a, topAt, top-1+1<<17)
			wantOut(t, e, a, api.Done{Stamp: now})
		}
	}
}

func TestASizeThatIsNone(t *testing.T) {
	for _, size := range odd() {
		if size >= 1 && size <= api.MostSize {
			continue
		}
		for _, own := range []bool{false, true} {
			e := later(t, arena(4, 3, 20), 1, 7)
			a := begun(t, makes(size, own))
			wantPinned(t, e, a)
			now := e.Now()
			wantQuietStep(t, e, a)
			wantOut(t, e, a, api.Done{E: api.ErrSize, Stamp: now})
		}
	}
}

func TestNumbersThatAreNoHandles(t *testing.T) {
	// 0, the life 0, a slot that there is not, one that has too many bits: told without a look, but for the pin.
	for _, n := range []uint64{0, 1, 3, 4, 5, 65535, handle(4, 1), handle(5, 1), handle(65535, 1), handle(65535, 65535), 1 << 32, 1<<32 + 65536, 1 << 63, 1<<64 - 1} {
		for _, own := range []bool{false, true} {
			for _, x := range all(n, 0, own) {
				e := later(t, arena(4, 3, 20), 2, 9)
				a := begun(t, x)
				wantPinned(t, e, a)
				now := e.Now()
				wantQuietStep(t, e, a)
				wantOut(t, e, a, api.Done{E: api.ErrInvalid, Stamp: now})
			}
		}
	}
}

// all is each thing that is done to an object.
func all(n uint64, k int, own bool) []api.Act {
	return []api.Act{frees(n, own), reads(n, k, own), writes(n, k, 5, own), exchanges(n, k, 0, 5, own)}
}

func TestHandlesOfNothing(t *testing.T) {
	// Slots in which nothing lives, or something else: told by a look at the slot's word.
	e := entered(t, arena(4, 3, 20), 1)
	x := made(t, e, 3, false)
	y := made(t, e, 2, true)
	if d := did(t, e, frees(y.number(), true)); d.E != api.OK {
		t.Fatal(d)
	}
	for s := range 4 {
		for _, gen := range []int{1, 2, 3, 99, 65535} {
			n := handle(s, gen)
			if n == x.number() {
				continue
			}
			for _, own := range []bool{false, true} {
				for _, z := range all(n, 0, own) {
					a := begun(t, z)
					wantPinned(t, e, a)
					wantLook(t, e, a, slotAt(e.C, s))
					wantOut(t, e, a, api.Done{E: api.ErrInvalid, Stamp: e.Now()})
				}
			}
		}
	}
	wantWords(t, e, x, 50, 51, 52)
}

// wantWords asks what is read of an object, word by word.
func wantWords(t *testing.T, e layout.Env, x thing, l ...int) {
	t.Helper()
	for k, v := range l {
		if d := did(t, e, reads(x.number(), k, x.own)); d.E != api.OK || d.Value != v {
			t.Fatalf("word %d of %+v is told as %+v, not as %d", k, x, d, v)
		}
	}
}

func TestOwnAsIsSaid(t *testing.T) {
	// What is a part of a list is reached just by acts that say so, and the other way round.
	for _, own := range []bool{false, true} {
		e := entered(t, arena(4, 3, 20), 0)
		x := made(t, e, 2, own)
		for _, k := range []int{-1, 0, 1, 2, 3} {
			for _, z := range all(x.number(), k, !own) {
				a := begun(t, z)
				wantPinned(t, e, a)
				wantSeen(t, e, a, x)
				wantOut(t, e, a, api.Done{E: api.ErrInvalid, Stamp: e.Now()})
			}
		}
		wantWords(t, e, x, 50, 51)
		if d := did(t, e, frees(x.number(), own)); d.E != api.OK {
			t.Fatal(d)
		}
	}
}

func TestIndexesThatAreNone(t *testing.T) {
	for _, own := range []bool{false, true} {
		for size := 1; size <= api.MostSize; size++ {
			e := entered(t, arena(4, 3, 20), 2)
			x := made(t, e, size, own)
			for _, k := range append(odd(), size, size+1) {
				if k >= 0 && k < size {
					continue
				}
				for _, z := range all(x.number(), k, own)[1:] {
					a := begun(t, z)
					wantPinned(t, e, a)
					wantLook(t, e, a, slotAt(e.C, x.slot))
					now := e.Now()
					wantLook(t, e, a, x.addr)
					wantOut(t, e, a, api.Done{E: api.ErrIndex, Stamp: now})
				}
			}
		}
	}
}

func TestNoSlotIsLeft(t *testing.T) {
	e := entered(t, arena(3, 3, 20), 1)
	for range 3 {
		made(t, e, 2, false)
	}
	for range 3 {
		a := begun(t, makes(2, false))
		wantPinned(t, e, a)
		wantLook(t, e, a, topAt)
		wantOut(t, e, a, api.Done{E: api.ErrHandles, Stamp: e.Now()})
	}
	if d := did(t, e, frees(handle(1, 1), false)); d.E != api.OK {
		t.Fatal(d)
	}
	if d := did(t, e, makes(2, false)); d.E != api.OK || d.Handle != handle(1, 2) {
		t.Fatal(d)
	}
}

func TestNoRoomIsLeft(t *testing.T) {
	// The slot that was taken is given back: the slots are as they were, and the pin is 0.
	for _, size := range []int{1, 4, 5, 16} {
		c := arena(40, 2, 20)
		e := entered(t, c, 1)
		n := c.Chunks * (c.Words / rooms[classes[size]])
		for range n {
			if d := did(t, e, makes(size, false)); d.E != api.OK {
				t.Fatal(d)
			}
		}
		for range 5 {
			l := words(e.M)
			d := did(t, e, makes(size, false))
			// The last step is the pin's; the one ahead of it gave the slot back.
			if d != (api.Done{E: api.ErrMemory, Stamp: e.Now() - 1}) {
				t.Fatalf("%+v", d)
			}
			// Of the first free slot's word just the count is another one.
			top := e.M.Peek(topAt)
			if top&(1<<17-1) != l[topAt]&(1<<17-1) {
				t.Fatalf("first of the free slots is %#x, not %#x", top, l[topAt])
			}
			l[topAt] = top
			if !slices.Equal(words(e.M), l) {
				t.Fatal("words are others")
			}
		}
	}
}

func TestTheEpochGoesOnWhileItIsPinned(t *testing.T) {
	// As often as it goes on ahead of its being looked at again, the pin is laid anew.
	for _, x := range []api.Act{makes(2, false), frees(65536, false), reads(65536, 0, false), writes(65536, 0, 7, false), exchanges(65536, 0, 50, 8, false)} {
		for often := range 6 {
			e := entered(t, arena(4, 3, 20), 1)
			made(t, e, 2, false)
			a := begun(t, x)
			wantLook(t, e, a, epochAt)
			for range often {
				e.M.Store(epochAt, e.M.Peek(epochAt)+1)
				wantOn(t, e, a, pinAt(1), e.M.Peek(epochAt))
				wantLook(t, e, a, epochAt)
			}
			wantOn(t, e, a, pinAt(1), e.M.Peek(epochAt)+1)
			wantLook(t, e, a, epochAt)
			// Then the epoch may go on: the pin stays, till the act is done.
			pinned := e.M.Peek(pinAt(1))
			e.M.Store(epochAt, e.M.Peek(epochAt)+1)
			for !a.Step(e) {
				if e.M.Peek(pinAt(1)) != pinned {
					t.Fatalf("the pin is %d, not %d", e.M.Peek(pinAt(1)), pinned)
				}
			}
			if d := a.Done(); d.E != api.OK || e.M.Peek(pinAt(1)) != 0 {
				t.Fatal(d, e.M.Peek(pinAt(1)))
			}
		}
	}
}

func TestThePinBehindTheLastEpoch(t *testing.T) {
	// Numbers wrap round: then the pin is 0, and all ends as ever.
	e := entered(t, arena(4, 3, 20), 0)
	e.M.Store(epochAt, 1<<64-1)
	a := begun(t, makes(2, false))
	wantPinned(t, e, a)
	for !a.Step(e) {
	}
	if d := a.Done(); d.E != api.OK || d.Handle != 65536 {
		t.Fatal(d)
	}
}

func TestAllOfALife(t *testing.T) {
	// Made, written, exchanged, read, let go; then its handle is one of nothing, though its slot is used again.
	for _, own := range []bool{false, true} {
		for size := 1; size <= api.MostSize; size++ {
			e := entered(t, arena(2, 30, 20), 2)
			for gen := 1; gen <= 9; gen++ {
				d := did(t, e, makes(size, own))
				if d.E != api.OK || d.Handle != handle(0, gen) || d.Value != 0 {
					t.Fatal(d)
				}
				n := d.Handle
				for k := range size {
					wantTold(t, e, reads(n, k, own), api.OK, 0)
					wantTold(t, e, writes(n, k, 9+k, own), api.OK, 0)
					wantTold(t, e, exchanges(n, k, 10+k, 8, own), api.ErrOther, 9+k)
					wantTold(t, e, exchanges(n, k, 9+k, most-k, own), api.OK, 9+k)
				}
				for k := range size {
					wantTold(t, e, reads(n, k, own), api.OK, most-k)
				}
				wantTold(t, e, frees(n, own), api.OK, 0)
				for range 2 {
					for _, x := range all(n, 0, own) {
						wantTold(t, e, x, api.ErrInvalid, 0)
					}
				}
			}
		}
	}
}

// wantTold asks what an act of one who is alone comes to, and that it takes effect while it is under way.
func wantTold(t *testing.T, e layout.Env, x api.Act, why api.Errno, value int) {
	t.Helper()
	began := e.Now()
	d := did(t, e, x)
	if d.E != why || d.Value != value || d.Handle != 0 {
		t.Fatalf("%+v came to %+v, not to %v, %d", x, d, why, value)
	}
	if d.Stamp <= began || d.Stamp >= e.Now() {
		t.Fatalf("%+v took effect at step %d; those of it are %d to %d", x, d.Stamp, began+1, e.Now())
	}
}

func TestASlotsLastLife(t *testing.T) {
	// As often as Gens says a slot is used; then no handle is left.
	c := arena(2, 30, 20)
	c.Gens = 3
	e := entered(t, c, 1)
	for gen := 1; gen <= 3; gen++ {
		for range 2 {
			d := did(t, e, makes(2, false))
			if d.E != api.OK || d.Handle>>16 != uint64(gen) {
				t.Fatal(d)
			}
		}
		for s := range 2 {
			wantTold(t, e, frees(handle(s, gen), false), api.OK, 0)
		}
	}
	wantTold(t, e, makes(2, false), api.ErrHandles, 0)
}
