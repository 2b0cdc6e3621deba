package drop_test

import (
	"slices"
	"testing"

	"footlocker/alloc"
	"footlocker/api"
	"footlocker/drop"
	"footlocker/layout"
)

// made is the handle of an object that one who is alone makes.
func made(t *testing.T, e layout.Env, size int, own bool) uint64 {
	t.Helper()
	a := alloc.New(size, own)
	for !a.Step(e) {
	}
	if a.Done().E != api.OK {
		t.Fatal(a.Done())
	}
	return a.Done().Handle
}

// found is the object of a handle that lives, as the memory tells it.
func found(e layout.Env, number uint64) thing {
	s := int(number & (1<<16 - 1))
	w := e.M.Peek(slotAt(e.C, s))
	h := e.M.Peek(addrOf(w))
	return thing{
		slot: s, gen: genOf(w), state: stateOf(w), ver: verOf(w),
		size: sizeOf(h), own: ownOf(h),
		addr: addrOf(w), chunk: (addrOf(w) - baseAt(e.C, 0)) / e.C.Words,
	}
}

func TestExampleOfTheChapter(t *testing.T) {
	// Let go twice: the second time ErrInvalid.
	e := entered(t, arena(8, 4, 20), 0)
	h := made(t, e, 2, false)
	if d, n := dropped(e, h, false); d.E != api.OK || n != 12 {
		t.Error(d, n)
	}
	if d, n := dropped(e, h, false); d.E != api.ErrInvalid || n != 1 {
		t.Error(d, n)
	}
}

func TestLiveOfEachStateAndGen(t *testing.T) {
	for _, state := range odd() {
		for _, gen := range odd() {
			for _, of := range odd() {
				s := api.Slot{State: state, Addr: gen, Gen: gen, Ver: of}
				want := gen == of && (state == live || state == moving || state == dropping)
				for _, slot := range []int{-1, 0, 7, of} {
					if drop.Live(s, api.Handle{Slot: slot, Gen: of}) != want {
						t.Fatal(s, of, "lives not:", want)
					}
				}
			}
		}
	}
}

func TestAloneInAFreshArena(t *testing.T) {
	// All steps, written out: 8 slots from word 9 on, 4 chunks from word 25 on, their words from word 37 on.
	e := entered(t, arena(8, 4, 20), 1)
	h := made(t, e, 3, true)
	e.M.Store(38, 5)
	e.M.Store(40, 1<<40-1)
	now := e.Now()
	d := drop.New(h, true)
	wantOn(t, e, d, 9, 1+37<<3+1<<23)
	wantOn(t, e, d, 37, 2+3<<2+1<<34+1<<50)
	wantOn(t, e, d, 9, 4+37<<3+1<<23+1<<39)
	wantOn(t, e, d, 38, 5)
	wantOn(t, e, d, 38, 5+1<<40+1<<63)
	wantOn(t, e, d, 39, 0)
	wantOn(t, e, d, 39, 1<<40+1<<63)
	wantOn(t, e, d, 40, 1<<40-1)
	wantOn(t, e, d, 40, 1<<40-1+1<<40+1<<63)
	wantOn(t, e, d, 9, 2<<23)
	wantOn(t, e, d, 26, 0)
	wantOn(t, e, d, 1, 2+1<<17)
	wantOn(t, e, d, 10, 2)
	wantStep(t, e, d, 1, 1+2<<17, true)
	wantDone(t, d, api.Done{Stamp: now + 10})
}

func TestEachSizeAlone(t *testing.T) {
	for size := 1; size <= api.MostSize; size++ {
		for _, own := range []bool{false, true} {
			e, x := placed(t, size, own)
			lives := e.M.Peek(chunkAt(e.C, 1) + 1)
			wantFree(t, e, 0, 2, 3)
			wantDropped(t, e, x)
			// The slot is free, in its next life, and the first free one.
			if w := e.M.Peek(slotAt(e.C, 1)); w != slotWord(free, 0, 4, 0) {
				t.Fatalf("the slot's word is %#x", w)
			}
			wantFree(t, e, 1, 0, 2, 3)
			if w := e.M.Peek(chunkAt(e.C, 1) + 1); lives-w != uint64(rooms[classes[size]]) {
				t.Fatalf("live words fell from %d to %d", lives, w)
			}
			wantNone(t, e, x.number(), own)
			wantNone(t, e, x.number(), !own)
		}
	}
}

func TestEachChunkAndPlace(t *testing.T) {
	for chunk := range 3 {
		for at := range 40 {
			e := filled(t, arena(2, 3, 40), 0)
			x := thing{slot: 0, gen: 1, state: live, size: 16, chunk: chunk, addr: baseAt(e.C, chunk) + at}
			// The last object that a chunk has room for ends with it.
			x.size = min(16, 39-at)
			if x.size < 1 {
				continue
			}
			lay(e, x)
			wantDropped(t, e, x)
		}
	}
}

func TestEachStateInWhichAnObjectCanBeLetGo(t *testing.T) {
	for _, state := range []int{live, moving} {
		for _, ver := range []int{0, 1, 2, 77, 1 << 21, api.MostVer - 2, api.MostVer - 1} {
			e := filled(t, arena(4, 3, 40), 0)
			x := object(e.C, 5, false)
			x.state, x.ver = state, ver
			lay(e, x)
			wantDropped(t, e, x)
		}
	}
}

func TestTheGreatestVersionStays(t *testing.T) {
	// No move comes to it: who moves an object stops ahead of it.
	e := filled(t, arena(4, 3, 40), 0)
	x := object(e.C, 2, false)
	x.ver = api.MostVer
	lay(e, x)
	d := drop.New(x.number(), false)
	wantSeen(t, e, d, x)
	wantOn(t, e, d, slotAt(e.C, 1), slotWord(dropping, x.addr, x.gen, api.MostVer))
	wantFrozen(t, e, d, x, 0, api.MostVer)
	wantGiven(t, e, d, x, wantEnded(t, e, d, x))
}

func TestEachKindOfHead(t *testing.T) {
	// Who makes an object may not have laid its last head yet.
	for kind := range 4 {
		for _, own := range []bool{false, true} {
			e, x := placed(t, 4, own)
			e.M.Store(x.addr, head(kind, 4, 1, 3, own))
			wantDropped(t, e, x)
		}
	}
}

func TestCellsThatAreFrozenAlready(t *testing.T) {
	// In a move of the word's version: it is passed over. In another one, or not: it is frozen.
	for mask := range 1 << 4 {
		for _, ver := range []int{0, 6, 7, 8, 9, api.MostVer} {
			e := filled(t, arena(4, 3, 40), 0)
			x := object(e.C, 4, false)
			x.ver = 7
			x.state = moving
			lay(e, x)
			for k := range 4 {
				if mask>>k&1 != 0 {
					e.M.Store(x.addr+1+k, frozen(x.value(k), ver))
				}
			}
			now := e.Now()
			wantDropped(t, e, x)
			n := 16
			for k := range 4 {
				if mask>>k&1 != 0 && ver == 8 {
					n--
				}
			}
			if e.Now()-now != n {
				t.Fatalf("%d steps, not %d", e.Now()-now, n)
			}
		}
	}
}

func TestCellsWithBitsOfNothing(t *testing.T) {
	// A cell that is not frozen has no version, whatever its bits are; it is frozen all the same.
	e, x := placed(t, 2, false)
	e.M.Store(x.addr+1, 5|1<<40|1<<62)
	e.M.Store(x.addr+2, 1<<63-1)
	wantDropped(t, e, x)
	if e.M.Peek(x.addr+1) != frozen(5, 1) || e.M.Peek(x.addr+2) != frozen(1<<40-1, 1) {
		t.Errorf("%#x, %#x", e.M.Peek(x.addr+1), e.M.Peek(x.addr+2))
	}
}

func TestLivesOfASlot(t *testing.T) {
	// A slot that is used in so many lives as Gens says is retired, and is never taken again.
	for _, most := range []int{1, 2, 3, 9} {
		c := arena(1, 6, 256)
		c.Gens = most
		e := entered(t, c, 0)
		for gen := 1; gen <= most; gen++ {
			h := made(t, e, 2, gen%2 == 0)
			if h != handle(0, gen) {
				t.Fatalf("%#x in life %d", h, gen)
			}
			wantDropped(t, e, found(e, h))
		}
		if w := e.M.Peek(slotAt(c, 0)); w != slotWord(retired, 0, most, 0) {
			t.Fatalf("the slot's word is %#x", w)
		}
		wantFree(t, e)
		a := alloc.New(1, false)
		if !a.Step(e) || a.Done().E != api.ErrHandles {
			t.Error("a slot that is retired was taken")
		}
		for gen := range most + 3 {
			wantNone(t, e, handle(0, gen), false)
			wantNone(t, e, handle(0, gen), true)
		}
	}
}

func TestTheLastLifeByGens(t *testing.T) {
	for _, most := range []int{1, 2, 5, 255, api.MostGen - 1, api.MostGen} {
		for _, gen := range []int{1, 2, 4, 5, 6, 254, 255, 256, api.MostGen - 1, api.MostGen} {
			c := arena(4, 3, 40)
			c.Gens = most
			e := filled(t, c, 0)
			x := object(c, 3, false)
			x.gen = gen
			lay(e, x)
			wantDropped(t, e, x)
			if w := e.M.Peek(slotAt(c, 1)); stateOf(w) == retired != (gen >= most) {
				t.Fatalf("life %d of %d: the slot's word is %#x", gen, most, w)
			}
			if gen >= most {
				wantFree(t, e, 0, 2, 3)
			} else {
				wantFree(t, e, 1, 0, 2, 3)
			}
		}
	}
}

func TestHandlesOfNothing(t *testing.T) {
	e, x := placed(t, 4, false)
	for _, own := range []bool{false, true} {
		// No handles: Gen 0, or more bits.
		for _, n := range []uint64{0, 1, 2, 3, 1<<16 - 1, 1 << 32, x.number() | 1<<32, x.number() | 1<<63, x.number() | 1<<40, 1<<64 - 1} {
			wantNone(t, e, n, own)
		}
		// No slots.
		for _, s := range []int{4, 5, 6, 100, 1<<16 - 1} {
			for _, gen := range []int{1, 3, 1<<16 - 1} {
				wantNone(t, e, handle(s, gen), own)
			}
		}
		// Other lives, and slots that are free.
		for gen := range 20 {
			if gen != 3 {
				wantNone(t, e, handle(1, gen), own)
			}
			wantNone(t, e, handle(0, gen), own)
			wantNone(t, e, handle(3, gen), own)
		}
		wantNone(t, e, handle(1, api.MostGen), own)
	}
	// It lives on.
	wantDropped(t, e, x)
}

func TestSlotsInEachState(t *testing.T) {
	for state := range 8 {
		for _, own := range []bool{false, true} {
			e := filled(t, arena(4, 3, 40), 0)
			x := object(e.C, 4, own)
			x.state = state
			lay(e, x)
			switch state {
			case live, moving:
				wantNotOwn(t, e, x)
				wantDropped(t, e, x)
			case dropping:
				wantNotOwn(t, e, x)
			default:
				wantNone(t, e, x.number(), own)
				wantNone(t, e, x.number(), !own)
			}
		}
	}
}

func TestAnObjectThatIsNotOwnAsIsSaid(t *testing.T) {
	for size := 1; size <= api.MostSize; size++ {
		for _, own := range []bool{false, true} {
			e, x := placed(t, size, own)
			for range 3 {
				wantNotOwn(t, e, x)
			}
			wantDropped(t, e, x)
		}
	}
}

func TestSlotsAreUsedAgain(t *testing.T) {
	// A handle that was let go is ErrInvalid, though its slot is used again, and though the object stands elsewhere.
	e := entered(t, arena(3, 8, 60), 0)
	var gone []uint64
	for i := range 20 {
		h := made(t, e, 1+i%16, i%3 == 0)
		if slices.Contains(gone, h) {
			t.Fatalf("%#x is told again", h)
		}
		for _, g := range gone {
			wantNone(t, e, g, false)
			wantNone(t, e, g, true)
		}
		wantDropped(t, e, found(e, h))
		gone = append(gone, h)
	}
}

func TestManyObjectsInAnyOrder(t *testing.T) {
	for step := 1; step <= 12; step++ {
		c := arena(13, 8, 40)
		e := entered(t, c, 2)
		var l []thing
		for i := range 13 {
			l = append(l, found(e, made(t, e, 1+i*5%16, i%2 == 0)))
		}
		wantFree(t, e)
		var want []int
		for i := range 13 {
			x := l[(i+1)*step%13]
			wantDropped(t, e, x)
			want = append([]int{x.slot}, want...)
			wantFree(t, e, want...)
		}
		for i := range c.Chunks {
			if e.M.Peek(chunkAt(c, i)+1) != 0 {
				t.Fatalf("of chunk %d live %d words", i, e.M.Peek(chunkAt(c, i)+1))
			}
		}
	}
}

func TestTheGreatestArena(t *testing.T) {
	c := api.Config{Threads: api.MostThreads, Slots: api.MostSlots, Chunks: api.MostChunks, Words: api.MostChunk, Gens: api.MostGen, Sparse: 600, Tries: 3}
	e := entered(t, c, 7)
	x := thing{slot: c.Slots - 1, gen: api.MostGen - 1, state: live, size: 16, own: true, chunk: c.Chunks - 1, addr: layout.Len(c) - 17}
	lay(e, x)
	if d, n := dropped(e, x.number(), true); d != (api.Done{Stamp: e.Now() - 4}) || n != 40 {
		t.Error(d, n)
	}
	if w := e.M.Peek(slotAt(c, x.slot)); w != slotWord(free, 0, api.MostGen, 0) {
		t.Errorf("the slot's word is %#x", w)
	}
	if firstOf(e.M.Peek(topAt)) != x.slot {
		t.Error("the first free slot is", firstOf(e.M.Peek(topAt)))
	}
	// Its last life.
	h := made(t, e, 16, true)
	if h != handle(x.slot, api.MostGen) {
		t.Fatalf("%#x", h)
	}
	if d, n := dropped(e, h, true); d != (api.Done{Stamp: e.Now() - 1}) || n != 37 {
		t.Error(d, n)
	}
	if w := e.M.Peek(slotAt(c, x.slot)); w != slotWord(retired, 0, api.MostGen, 0) {
		t.Errorf("the slot's word is %#x", w)
	}
}

func TestTheLeastArena(t *testing.T) {
	for size := 1; size <= api.MostSize; size++ {
		e := entered(t, api.Config{Threads: 1, Slots: 1, Chunks: 1, Words: api.LeastChunk, Gens: 1, Tries: 1}, 0)
		h := made(t, e, size, false)
		wantDropped(t, e, found(e, h))
		wantNone(t, e, h, false)
		wantFree(t, e)
	}
}

func TestWhatIsDoneStaysDone(t *testing.T) {
	e, x := placed(t, 4, false)
	l := []*drop.Drop{drop.New(x.number(), true), drop.New(x.number(), false), drop.New(x.number(), false), drop.New(0, true)}
	var told []api.Done
	for _, d := range l {
		for !d.Step(e) {
		}
		told = append(told, d.Done())
	}
	if told[1].E != api.OK || told[2].E != api.ErrInvalid {
		t.Fatal(told)
	}
	// There is such an object again.
	lay(e, x)
	wantNoStep(t, e, func() {
		for _, v := range []layout.Env{e, {}, {C: e.C}, {M: e.M}, e} {
			for i, d := range l {
				if !d.Step(v) {
					t.Error("it was done")
				}
				wantDone(t, d, told[i])
			}
		}
	})
}

func TestNobodyLetsAnObjectGo(t *testing.T) {
	e, _ := placed(t, 4, false)
	wantNoStep(t, e, func() {
		var d *drop.Drop
		for range 5 {
			if !d.Step(e) || !d.Step(layout.Env{}) {
				t.Error("a nil one has nothing to do")
			}
			wantDone(t, d, api.Done{E: api.ErrInput})
		}
	})
}

func TestOneThatNobodyAskedForAnything(t *testing.T) {
	// Its handle is 0, which is none.
	e, _ := placed(t, 4, false)
	wantNoStep(t, e, func() {
		d := &drop.Drop{}
		wantDone(t, d, api.Done{})
		if !d.Step(e) {
			t.Error("there is nothing to do")
		}
		wantDone(t, d, api.Done{E: api.ErrInvalid, Stamp: e.Now()})
	})
}

func TestDoneIsNoStep(t *testing.T) {
	e, x := placed(t, 4, false)
	d := drop.New(x.number(), false)
	for is := false; !is; is = d.Step(e) {
		wantNoStep(t, e, func() {
			for range 5 {
				d.Done()
			}
		})
	}
}

func TestDoneIsTheCallersOwn(t *testing.T) {
	e, x := placed(t, 4, false)
	d := drop.New(x.number(), false)
	for !d.Step(e) {
	}
	was := d.Done()
	told := d.Done()
	told.E, told.Handle, told.Value, told.Stamp = 5, 6, 7, 8
	wantDone(t, d, was)
}

func TestDropsShareNothing(t *testing.T) {
	// Two that were copied midway go their own ways, wherever that was.
	for ahead := range 17 {
		e, x := placed(t, 4, false)
		half := *drop.New(x.number(), false)
		for range ahead {
			half.Step(e)
		}
		other, again := half, half
		for !half.Step(e) {
		}
		d := half.Done()
		if d.E != api.OK {
			t.Fatal(d)
		}
		if ahead < 16 && (other.Done() != api.Done{} || again.Done() != api.Done{}) {
			t.Errorf("behind %d steps: %v, %v", ahead, other.Done(), again.Done())
		}
		for range 40 {
			other.Step(e)
		}
		if half.Done() != d || ahead < 16 && again.Done() != (api.Done{}) {
			t.Errorf("behind %d steps: %v, and then %v, %v", ahead, d, half.Done(), again.Done())
		}
	}
	if drop.New(1, false) == drop.New(1, false) || drop.NewHelp(0, 0, 1) == drop.NewHelp(0, 0, 1) {
		t.Error("each is one of its own")
	}
}
