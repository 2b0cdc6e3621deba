package access_test

import (
	"testing"

	"footlocker/access"
	"footlocker/alloc"
	"footlocker/api"
	"footlocker/drop"
	"footlocker/layout"
)

// made is the object that one who is alone makes, as the memory tells it.
func made(t *testing.T, e layout.Env, size int, own bool) thing {
	t.Helper()
	a := alloc.New(size, own)
	for !a.Step(e) {
	}
	if a.Done().E != api.OK {
		t.Fatal(a.Done())
	}
	return found(e, a.Done().Handle)
}

// found is the object of a handle that lives, as the memory tells it.
func found(e layout.Env, number uint64) thing {
	s := int(number & (1<<16 - 1))
	w := e.M.Peek(slotAt(e.C, s))
	h := e.M.Peek(addrOf(w))
	return thing{
		slot: s, gen: genOf(w), state: stateOf(w), ver: verOf(w),
		size: sizeOf(h), own: ownOf(h), addr: addrOf(w),
	}
}

// letGo lets an object go.
func letGo(t *testing.T, e layout.Env, x thing) {
	t.Helper()
	d := drop.New(x.number(), x.own)
	for !d.Step(e) {
	}
	if d.Done().E != api.OK {
		t.Fatal(d.Done())
	}
}

// edges is values that a word can have.
func edges() []int {
	return []int{0, 1, 2, 5, 1<<32 - 1, 1 << 32, 1 << 39, api.MostValue - 1, api.MostValue}
}

func TestExampleOfTheChapter(t *testing.T) {
	// Write 5, read: 5.
	e := entered(t, arena(8, 4, 20), 0)
	x := made(t, e, 2, false)
	if d, n := came(e, x.write(0, 5), false); d != (api.Done{Stamp: e.Now()}) || n != 4 {
		t.Error(d, n)
	}
	if d, n := came(e, x.read(0), false); d != (api.Done{Value: 5, Stamp: e.Now() - 1}) || n != 4 {
		t.Error(d, n)
	}
}

func TestAloneInAFreshArena(t *testing.T) {
	// All steps, written out: 8 slots from word 9 on, 4 chunks from word 25 on, their words from word 37 on.
	e := entered(t, arena(8, 4, 20), 1)
	h := made(t, e, 3, true).number()
	const slot, head = 1 + 37<<3 + 1<<23, 2 + 3<<2 + 1<<34 + 1<<50
	now := e.Now()
	a := access.New(api.Want{Kind: api.DoWrite, Handle: h, Index: 2, Value: 1<<40 - 1}, true)
	wantOn(t, e, a, 9, slot)
	wantOn(t, e, a, 37, head)
	wantOn(t, e, a, 40, 0)
	wantStep(t, e, a, 40, 1<<40-1, true)
	wantDone(t, a, api.Done{Stamp: now + 4})
	a = access.New(api.Want{Kind: api.DoRead, Handle: h, Index: 2}, true)
	wantOn(t, e, a, 9, slot)
	wantOn(t, e, a, 37, head)
	wantOn(t, e, a, 40, 1<<40-1)
	wantStep(t, e, a, 9, slot, true)
	wantDone(t, a, api.Done{Value: 1<<40 - 1, Stamp: now + 7})
	a = access.New(api.Want{Kind: api.DoCas, Handle: h, Index: 2, Value: 6, Old: 1<<40 - 1}, true)
	wantOn(t, e, a, 9, slot)
	wantOn(t, e, a, 37, head)
	wantOn(t, e, a, 40, 1<<40-1)
	wantStep(t, e, a, 40, 6, true)
	wantDone(t, a, api.Done{Value: 1<<40 - 1, Stamp: now + 12})
	a = access.New(api.Want{Kind: api.DoCas, Handle: h, Index: 2, Value: 7, Old: 5}, true)
	wantOn(t, e, a, 9, slot)
	wantOn(t, e, a, 37, head)
	wantOn(t, e, a, 40, 6)
	wantStep(t, e, a, 9, slot, true)
	wantDone(t, a, api.Done{E: api.ErrOther, Value: 6, Stamp: now + 15})
	a = access.New(api.Want{Kind: api.DoRead, Handle: h, Index: 3}, true)
	wantOn(t, e, a, 9, slot)
	wantStep(t, e, a, 37, head, true)
	wantDone(t, a, api.Done{E: api.ErrIndex, Stamp: now + 17})
	a = access.New(api.Want{Kind: api.DoRead, Handle: h}, false)
	wantOn(t, e, a, 9, slot)
	wantStep(t, e, a, 37, head, true)
	wantDone(t, a, api.Done{E: api.ErrInvalid, Stamp: now + 20})
	a = access.New(api.Want{Kind: api.DoRead, Handle: h + 1<<16}, true)
	wantStep(t, e, a, 9, slot, true)
	wantDone(t, a, api.Done{E: api.ErrInvalid, Stamp: now + 21})
}

func TestEachSizeAlone(t *testing.T) {
	for size := 1; size <= api.MostSize; size++ {
		for _, own := range []bool{false, true} {
			e, x := placed(t, size, own)
			for k := range size {
				was := x.value(k)
				for _, v := range edges() {
					wantOther(t, e, x, k, was+1, was)
					wantOther(t, e, x, k, was-1, was)
					wantExchanged(t, e, x, k, was, v^1)
					wantWritten(t, e, x, k, v^1, v)
					was = v
				}
			}
			for _, k := range []int{-1, size, size + 1} {
				for _, want := range x.all(k) {
					wantNoIndex(t, e, x, want)
				}
			}
			for _, want := range x.all(0) {
				wantNotOwn(t, e, x, want)
			}
		}
	}
}

func TestWordsOfObjectsThatWereMade(t *testing.T) {
	// Each word is what was laid last, at first 0; whatever is done to others.
	e := entered(t, arena(16, 20, 60), 0)
	var l []thing
	for size := 1; size <= api.MostSize; size++ {
		l = append(l, made(t, e, size, size%3 == 0))
	}
	last := map[[2]int]int{}
	x := uint64(7)
	var which, k, what, v int
	for range 5000 {
		which, x = mixed(x, len(l))
		k, x = mixed(x, l[which].size)
		what, x = mixed(x, 4)
		v, x = mixed(x, api.MostValue+1)
		was := last[[2]int{which, k}]
		want, lays, why := l[which].read(k), false, api.OK
		switch what {
		case 1:
			want, lays = l[which].write(k, v), true
		case 2:
			want, lays = l[which].exchange(k, was, v), true
		case 3:
			want, why = l[which].exchange(k, was+1, v), api.ErrOther
		}
		stamp := e.Now() + 3
		if lays {
			last[[2]int{which, k}] = v
			stamp++
		}
		if d, n := came(e, want, l[which].own); d != (api.Done{E: why, Value: was, Stamp: stamp}) || n != 4 {
			t.Fatalf("%v came to %v in %d steps, where %d was", want, d, n, was)
		}
	}
	for i, x := range l {
		for k := range x.size {
			if w := e.M.Peek(x.at(k)); w != uint64(last[[2]int{i, k}]) {
				t.Fatalf("word %d of %v is %#x", k, x, w)
			}
		}
	}
}

func TestEachChunkAndPlace(t *testing.T) {
	for chunk := range 3 {
		for at := range 39 {
			e := filled(t, arena(2, 3, 40), 0)
			// The last object that a chunk has room for ends with it.
			x := thing{slot: 0, gen: 1, state: live, size: min(16, 39-at), addr: baseAt(e.C, chunk) + at}
			lay(e, x)
			for _, k := range []int{0, x.size - 1} {
				wantWritten(t, e, x, k, valueOf(e.M.Peek(x.at(k))), 9+k)
			}
			wantNoIndex(t, e, x, x.read(x.size))
		}
	}
}

func TestIndexesThatAreNone(t *testing.T) {
	for size := 1; size <= api.MostSize; size += 5 {
		for _, own := range []bool{false, true} {
			e, x := placed(t, size, own)
			for _, k := range odd() {
				if k >= 0 && k < size {
					continue
				}
				for _, want := range x.all(k) {
					wantNoIndex(t, e, x, want)
					// It is not Own as is said: that comes first.
					wantNotOwn(t, e, x, want)
				}
				wantNone(t, e, api.Want{Kind: reading, Handle: handle(1, 4), Index: k}, own)
			}
		}
	}
}

func TestIndexesOfEachState(t *testing.T) {
	// It takes effect where the slot's word was loaded, whatever becomes of the object; nobody is helped.
	for _, state := range []int{live, moving, dropping} {
		e, x := standing(t, 4, state, 6)
		for _, want := range append(x.all(-1), x.all(4)...) {
			wantNoIndex(t, e, x, want)
			wantNotOwn(t, e, x, want)
			a := access.New(want, false)
			wantLook(t, e, a, slotAt(e.C, 1))
			now := e.Now()
			e.M.Store(slotAt(e.C, 1), slotWord(free, 0, 4, 0))
			wantStep(t, e, a, x.addr, e.M.Peek(x.addr), true)
			wantDone(t, a, api.Done{E: api.ErrIndex, Stamp: now})
			e.M.Store(slotAt(e.C, 1), x.word())
		}
	}
}

func TestHandlesOfNothing(t *testing.T) {
	e, x := placed(t, 4, false)
	for _, own := range []bool{false, true} {
		none := func(n uint64) {
			t.Helper()
			for _, want := range append(x.all(0), x.all(-1)...) {
				want.Handle = n
				wantNone(t, e, want, own)
			}
		}
		// No handles: Gen 0, or more bits.
		for _, n := range []uint64{0, 1, 2, 3, 1<<16 - 1, 1 << 32, x.number() | 1<<32, x.number() | 1<<63, x.number() | 1<<40, 1<<64 - 1} {
			none(n)
		}
		// No slots.
		for _, s := range []int{4, 5, 6, 100, 1<<16 - 1} {
			for _, gen := range []int{1, 3, 1<<16 - 1} {
				none(handle(s, gen))
			}
		}
		// Other lives, and slots that are free.
		for gen := range 12 {
			if gen != 3 {
				none(handle(1, gen))
			}
			none(handle(0, gen))
			none(handle(3, gen))
		}
		none(handle(1, api.MostGen))
	}
	// It is as it was.
	for k := range 4 {
		wantRead(t, e, x, k, x.value(k))
	}
}

func TestSlotsInEachState(t *testing.T) {
	for state := range 8 {
		for _, own := range []bool{false, true} {
			e, x := placed(t, 4, own)
			x.state = state
			e.M.Store(slotAt(e.C, 1), x.word())
			for _, want := range x.all(2) {
				switch state {
				case live, moving, dropping:
					wantNotOwn(t, e, x, want)
				default:
					wantNone(t, e, want, own)
					wantNone(t, e, want, !own)
				}
			}
		}
	}
}

func TestAnObjectThatIsMoving(t *testing.T) {
	// Who reads lets it be; a cell that is not frozen, or in a move of a lesser version, is laid, and the move goes on.
	for _, ver := range []int{0, 1, 5, api.MostVer - 2} {
		for k := range 4 {
			for _, in := range []int{-1, 0, ver - 1} {
				e, x := standing(t, 4, moving, ver)
				v := x.value(k)
				if in >= 0 && in < ver {
					e.M.Store(x.at(k), frozen(uint64(v), in))
				}
				wantOther(t, e, x, k, 8, v)
				wantWritten(t, e, x, k, v, 9)
				if in >= 0 && in < ver {
					e.M.Store(x.at(k), frozen(9, in))
				}
				wantExchanged(t, e, x, k, 9, 10)
				if e.M.Peek(slotAt(e.C, 1)) != x.word() {
					t.Fatal("the move is stopped")
				}
			}
		}
	}
}

func TestACellThatIsFrozenWhileItIsMoving(t *testing.T) {
	// Who reads it lets it be; who lays it stops the move, and then lays.
	for _, ver := range []int{0, 1, 5, api.MostVer - 2, api.MostVer - 1} {
		for k := range 4 {
			for _, lay := range []int{0, 1, 2} {
				e, x := standing(t, 4, moving, ver)
				v := x.value(k)
				e.M.Store(x.at(k), frozen(uint64(v), ver))
				wantRead(t, e, x, k, v)
				wantOther(t, e, x, k, v+1, v)
				want := []api.Want{x.write(k, 9), x.exchange(k, v, 9), x.exchange(k, v, v)}[lay]
				a := access.New(want, false)
				wantLoaded(t, e, a, x, k)
				y := x
				y.state, y.ver = live, ver+1
				wantOn(t, e, a, slotAt(e.C, 1), y.word())
				wantLoaded(t, e, a, y, k)
				wantLaid(t, e, a, x.at(k), want.Value)
				wantRead(t, e, y, k, want.Value)
			}
		}
	}
}

func TestACellThatIsFrozenInAMoveThatWasStopped(t *testing.T) {
	// Of a lesser version: it is read, and laid, not frozen.
	for _, state := range []int{live, moving} {
		for _, ver := range []int{1, 2, 9, api.MostVer - 1, api.MostVer} {
			for _, in := range []int{0, ver / 2, ver - 1} {
				e, x := standing(t, 4, state, ver)
				for k := range 4 {
					e.M.Store(x.at(k), frozen(uint64(x.value(k)), in))
				}
				wantOther(t, e, x, 1, 0, x.value(1))
				wantWritten(t, e, x, 1, x.value(1), 5)
				wantExchanged(t, e, x, 2, x.value(2), x.value(2))
				wantExchanged(t, e, x, 3, x.value(3), 0)
				if e.M.Peek(slotAt(e.C, 1)) != x.word() || e.M.Peek(x.at(0)) != frozen(uint64(x.value(0)), in) {
					t.Fatal("more is changed")
				}
			}
		}
	}
}

func TestACellThatIsFrozenInAMoveThatWasNotSeen(t *testing.T) {
	// Of the version that was seen, when the object was not moving, or of a greater one: all begins anew, till the slot's word is another one.
	for _, state := range []int{live, moving} {
		for _, ver := range []int{0, 1, 7} {
			for more := range 3 {
				if state == moving && more == 0 {
					continue
				}
				for _, lay := range []int{0, 1} {
					e, x := standing(t, 4, state, ver)
					v := x.value(2)
					e.M.Store(x.at(2), frozen(uint64(v), ver+more))
					wantRead(t, e, x, 2, v)
					wantOther(t, e, x, 2, 3, v)
					a := access.New([]api.Want{x.write(2, 9), x.exchange(2, v, 9)}[lay], false)
					for range 4 {
						wantLoaded(t, e, a, x, 2)
					}
					// The move of that version was stopped.
					x.state, x.ver = live, ver+more+1
					e.M.Store(slotAt(e.C, 1), x.word())
					wantLoaded(t, e, a, x, 2)
					wantLaid(t, e, a, x.at(2), 9)
				}
			}
		}
	}
}

func TestAnObjectThatIsBeingLetGo(t *testing.T) {
	for size := 1; size <= api.MostSize; size++ {
		for _, own := range []bool{false, true} {
			for mask := range 3 {
				e, x := placed(t, size, own)
				x.state, x.ver = dropping, 5
				lay(e, x)
				// Some cells are frozen already.
				for k := range size {
					if k%3 < mask {
						e.M.Store(x.at(k), frozen(uint64(x.value(k)), 5))
					}
				}
				k := size / 2
				// It lives till that is over: its words are read.
				wantRead(t, e, x, k, x.value(k))
				wantOther(t, e, x, k, 1, x.value(k))
				// Who lays helps that, and begins anew.
				want := []api.Want{x.write(k, 7), x.exchange(k, x.value(k), 7)}[size%2]
				a := access.New(want, own)
				wantLoaded(t, e, a, x, k)
				wantHelped(t, e, a, x)
				wantGone(t, e, a, 1)
				for k := range size {
					if e.M.Peek(x.at(k)) != frozen(uint64(x.value(k)), 5) {
						t.Fatalf("cell %d is %#x", k, e.M.Peek(x.at(k)))
					}
				}
			}
		}
	}
}

func TestAnObjectThatIsLetGoInItsLastLife(t *testing.T) {
	e, x := standing(t, 2, dropping, 5)
	x.gen = gens
	lay(e, x)
	a := access.New(x.write(1, 7), false)
	wantLoaded(t, e, a, x, 1)
	wantFrozen(t, e, a, x)
	wantOn(t, e, a, slotAt(e.C, 1), slotWord(retired, 0, gens, 0))
	wantGone(t, e, a, 1)
	for _, want := range x.all(1) {
		wantNone(t, e, want, false)
	}
}

func TestTheGreatestVersionStays(t *testing.T) {
	// No move comes to it: who moves an object stops ahead of it.
	e, x := standing(t, 2, moving, api.MostVer)
	e.M.Store(x.at(0), frozen(3, api.MostVer))
	a := access.New(x.write(0, 4), false)
	wantLoaded(t, e, a, x, 0)
	wantOn(t, e, a, slotAt(e.C, 1), slotWord(live, x.addr, x.gen, api.MostVer))
	wantLoaded(t, e, a, x, 0)
	wantLook(t, e, a, slotAt(e.C, 1))
}

func TestEachKindOfHead(t *testing.T) {
	// Who makes or moves an object may not have laid its last head yet.
	for kind := range 4 {
		for _, own := range []bool{false, true} {
			e, x := placed(t, 4, own)
			e.M.Store(x.addr, head(kind, 4, 1, 3, own))
			wantWritten(t, e, x, 3, x.value(3), 8)
			wantExchanged(t, e, x, 3, 8, 9)
			wantNotOwn(t, e, x, x.read(0))
			wantNoIndex(t, e, x, x.read(4))
		}
	}
}

func TestCellsWithBitsOfNothing(t *testing.T) {
	// A cell that is not frozen has no version, whatever its bits are.
	for _, state := range []int{live, moving} {
		e, x := standing(t, 3, state, 1)
		e.M.Store(x.at(0), 5|1<<40|1<<62)
		e.M.Store(x.at(1), 1<<63-1)
		e.M.Store(x.at(2), 6|1<<40)
		wantOther(t, e, x, 0, 4, 5)
		wantExchanged(t, e, x, 0, 5, 6)
		wantWritten(t, e, x, 1, api.MostValue, 0)
		wantExchanged(t, e, x, 2, 6, 6)
	}
	// One that is frozen, with the bit beside its version.
	e, x := standing(t, 1, moving, 1)
	e.M.Store(x.at(0), frozen(5, 0)|1<<62)
	wantExchanged(t, e, x, 0, 5, 6)
}

func TestValuesThatMayNotBe(t *testing.T) {
	// Laid is the nearest that fits; what can't be there is never there.
	for _, v := range odd() {
		fits := min(max(v, 0), api.MostValue)
		e, x := placed(t, 2, false)
		was := x.value(1)
		if d, _ := came(e, x.write(1, v), false); d != (api.Done{Value: was, Stamp: e.Now()}) {
			t.Fatal(v, d)
		}
		wantRead(t, e, x, 1, fits)
		if d, _ := came(e, x.exchange(1, fits, v), false); d != (api.Done{Value: fits, Stamp: e.Now()}) {
			t.Fatal(v, d)
		}
		wantRead(t, e, x, 1, fits)
		if v != fits {
			wantOther(t, e, x, 1, v, fits)
		}
		// What is not asked for does not matter.
		want := x.read(1)
		want.Value, want.Old = v, v
		if d, n := came(e, want, false); d.E != api.OK || d.Value != fits || n != 4 {
			t.Fatal(v, d, n)
		}
		want = x.write(1, 4)
		want.Old = v
		if d, n := came(e, want, false); d.E != api.OK || d.Value != fits || n != 4 {
			t.Fatal(v, d, n)
		}
	}
}

func TestKindsThatAreNone(t *testing.T) {
	e, x := placed(t, 2, false)
	wantNoStep(t, e, func() {
		for _, kind := range odd() {
			if kind >= reading && kind <= exchanging {
				continue
			}
			for _, number := range []uint64{x.number(), 0, handle(2, 1), handle(9, 1)} {
				a := access.New(api.Want{Kind: kind, Handle: number}, false)
				wantDone(t, a, api.Done{})
				if !a.Step(e) {
					t.Fatalf("there is no kind %d", kind)
				}
				wantDone(t, a, api.Done{E: api.ErrInput, Stamp: e.Now()})
			}
		}
	})
}

func TestHandlesThatWereLetGo(t *testing.T) {
	// They are told as such, though the slot is used again; what lives there is not changed.
	e := entered(t, arena(3, 8, 60), 0)
	var gone []thing
	for i := range 15 {
		x := made(t, e, 1+i%16, i%3 == 0)
		wantWritten(t, e, x, 0, 0, 5)
		for _, g := range gone {
			for _, want := range append(g.all(0), g.exchange(0, 5, 6)) {
				wantNone(t, e, want, false)
				wantNone(t, e, want, true)
			}
		}
		wantRead(t, e, x, 0, 5)
		letGo(t, e, x)
		gone = append(gone, x)
	}
}

func TestTheGreatestArena(t *testing.T) {
	c := api.Config{Threads: api.MostThreads, Slots: api.MostSlots, Chunks: api.MostChunks, Words: api.MostChunk, Gens: api.MostGen, Sparse: 600, Tries: 3}
	e := entered(t, c, 7)
	x := thing{slot: c.Slots - 1, gen: api.MostGen, state: moving, ver: api.MostVer - 2, size: 16, own: true, addr: layout.Len(c) - 17}
	lay(e, x)
	e.M.Store(x.at(15), frozen(1<<40-1, x.ver))
	if d, n := came(e, x.exchange(15, 1<<40-1, 1<<40-2), true); d != (api.Done{Value: 1<<40 - 1, Stamp: e.Now()}) || n != 8 {
		t.Error(d, n)
	}
	if w := e.M.Peek(slotAt(c, x.slot)); w != slotWord(live, x.addr, api.MostGen, api.MostVer-1) {
		t.Errorf("the slot's word is %#x", w)
	}
	if d, n := came(e, x.read(15), true); d != (api.Done{Value: 1<<40 - 2, Stamp: e.Now() - 1}) || n != 4 {
		t.Error(d, n)
	}
	if d, n := came(e, x.read(16), true); d != (api.Done{E: api.ErrIndex, Stamp: e.Now() - 1}) || n != 2 {
		t.Error(d, n)
	}
}

func TestTheLeastArena(t *testing.T) {
	for size := 1; size <= api.MostSize; size++ {
		e := entered(t, api.Config{Threads: 1, Slots: 1, Chunks: 1, Words: api.LeastChunk, Gens: 1, Tries: 1}, 0)
		x := made(t, e, size, false)
		for k := range size {
			wantWritten(t, e, x, k, 0, k+1)
		}
		letGo(t, e, x)
		for _, want := range x.all(size - 1) {
			wantNone(t, e, want, false)
		}
	}
}

func TestWhatIsDoneStaysDone(t *testing.T) {
	e, x := placed(t, 4, false)
	var l []*access.Access
	for _, want := range append(x.all(1), x.read(9), api.Want{Kind: reading}, api.Want{Handle: x.number()}) {
		l = append(l, access.New(want, false), access.New(want, true))
	}
	var told []api.Done
	for _, a := range l {
		for !a.Step(e) {
		}
		told = append(told, a.Done())
	}
	lay(e, x)
	wantNoStep(t, e, func() {
		for _, v := range []layout.Env{e, {}, {C: e.C}, {M: e.M}, e} {
			for i, a := range l {
				if !a.Step(v) {
					t.Error("it was done")
				}
				wantDone(t, a, told[i])
			}
		}
	})
}

func TestNobodyReadsOrLays(t *testing.T) {
	e, _ := placed(t, 4, false)
	wantNoStep(t, e, func() {
		var a *access.Access
		for range 5 {
			if !a.Step(e) || !a.Step(layout.Env{}) {
				t.Error("a nil one has nothing to do")
			}
			wantDone(t, a, api.Done{E: api.ErrInput})
		}
		// One that nobody asked for anything.
		a = &access.Access{}
		wantDone(t, a, api.Done{})
		if !a.Step(e) {
			t.Error("there is nothing to do")
		}
		wantDone(t, a, api.Done{E: api.ErrInput, Stamp: e.Now()})
	})
}

func TestDoneIsNoStep(t *testing.T) {
	e, x := placed(t, 4, false)
	for _, want := range x.all(1) {
		a := access.New(want, false)
		for is := false; !is; is = a.Step(e) {
			wantNoStep(t, e, func() {
				for range 5 {
					a.Done()
				}
			})
		}
	}
}

func TestWhatIsToldAndHandedInIsTheCallersOwn(t *testing.T) {
	e, x := placed(t, 4, false)
	want := x.write(1, 6)
	a := access.New(want, false)
	want.Kind, want.Handle, want.Index, want.Value, want.Old = reading, 5, 2, 7, 8
	for !a.Step(e) {
	}
	was := a.Done()
	told := a.Done()
	told.E, told.Handle, told.Value, told.Stamp = 5, 6, 7, 8
	wantDone(t, a, was)
	if was.E != api.OK || was.Value != x.value(1) || e.M.Peek(x.at(1)) != 6 {
		t.Error(was)
	}
}

func TestAccessesShareNothing(t *testing.T) {
	// Two that were copied midway go their own ways, wherever that was.
	for ahead := range 9 {
		for _, state := range []int{live, moving, dropping} {
			e, x := standing(t, 2, state, 4)
			e.M.Store(x.at(1), frozen(3, 4-state%2))
			half := *access.New(x.write(1, 6), false)
			for range ahead {
				half.Step(e)
			}
			other, again := half, half
			told := half.Done()
			for !half.Step(e) {
			}
			d := half.Done()
			if d.E == api.OK != (state != dropping) {
				t.Fatal(d)
			}
			wantDone(t, &other, told)
			for !other.Step(e) {
			}
			wantDone(t, &half, d)
			wantDone(t, &again, told)
		}
	}
	if access.New(api.Want{}, false) == access.New(api.Want{}, false) {
		t.Error("each is one of its own")
	}
}
