package move_test

import (
	"slices"
	"testing"

	"footlocker/api"
	"footlocker/layout"
	"footlocker/move"
)

func TestExampleOfTheChapter(t *testing.T) {
	// Alone: the object stands elsewhere, with the same words.
	e := entered(t, arena(8, 4, 20), 0)
	x := made(t, e, 2, false)
	e.M.Store(x.at(0), 7)
	e.M.Store(x.at(1), 8)
	out, m := came(e, x.addr, x.head())
	y := found(e, x.number())
	if spot, is := m.Spot(); out != api.MoveDone || !is || spot != (api.Spot{Addr: y.addr, Chunk: 0}) {
		t.Error(out, spot, is)
	}
	if y.addr == x.addr || y.ver != 1 || y.state != live || e.M.Peek(y.at(0)) != 7 || e.M.Peek(y.at(1)) != 8 {
		t.Error(y)
	}
}

func TestAloneInAFreshArena(t *testing.T) {
	// All steps, written out: 8 slots from word 9 on, 4 chunks from word 25 on, their words from word 37 on.
	e := entered(t, arena(8, 4, 20), 1)
	made(t, e, 3, true)
	const was, moves, is = 1 + 37<<3 + 1<<23, 2 + 37<<3 + 1<<23, 1 + 57<<3 + 1<<23 + 1<<39
	const head = 3<<2 + 1<<34 + 1<<50
	e.M.Store(38, 1<<40-1)
	e.M.Store(40, 5)
	// Chunk 0 is evacuated.
	e.M.Store(25, 2+1<<2+5<<8+2<<28)
	m := &mover{Move: move.New(37, api.Head{Kind: 2, Size: 3, Gen: 1, Own: true})}
	wantOn(t, e, m, 9, was)
	wantOn(t, e, m, 3, 1)
	wantOn(t, e, m, 25, 2+1<<2+5<<8+2<<28)
	wantOn(t, e, m, 25, 2+1<<2+5<<8+2<<28)
	wantOn(t, e, m, 28, 0)
	wantOn(t, e, m, 28, 1+1<<2+1<<28)
	wantOn(t, e, m, 3, 2)
	wantOn(t, e, m, 3, 2)
	wantOn(t, e, m, 28, 1+1<<2+1<<28)
	m.spot, m.is = api.Spot{Addr: 57, Chunk: 1}, true
	wantOn(t, e, m, 28, 1+1<<2+5<<8+1<<28)
	wantOn(t, e, m, 57, head+1)
	wantOn(t, e, m, 9, moves)
	wantOn(t, e, m, 38, 1<<40-1)
	wantOn(t, e, m, 38, 1<<63+1<<40-1)
	wantOn(t, e, m, 58, 1<<40-1)
	wantOn(t, e, m, 39, 0)
	wantOn(t, e, m, 39, 1<<63)
	wantOn(t, e, m, 59, 0)
	wantOn(t, e, m, 40, 5)
	wantOn(t, e, m, 40, 1<<63+5)
	wantOn(t, e, m, 60, 5)
	wantOn(t, e, m, 9, is)
	wantOn(t, e, m, 57, head+2)
	wantOn(t, e, m, 29, 5)
	wantStep(t, e, m, 26, 0, true)
	wantOut(t, m, api.MoveDone)
	// There it lives no more.
	m = &mover{Move: move.New(37, api.Head{Kind: 2, Size: 3, Gen: 1, Own: true})}
	wantStep(t, e, m, 9, is, true)
	wantOut(t, m, api.MoveDead)
}

func TestEachSizeAlone(t *testing.T) {
	for size := 1; size <= api.MostSize; size++ {
		for _, own := range []bool{false, true} {
			e, x := placed(t, size, own)
			y := wantMoved(t, e, x)
			wantThere(t, e, y)
			if y.addr != copyOf(e, x).Addr || y.ver != 1 || y.number() != x.number() {
				t.Fatal(y)
			}
			c := e.M.Peek(chunkAt(e.C, 2))
			if kindOf(c) != open || classOf(c) != classes[size] || usedOf(c) != 3*x.room() {
				t.Fatalf("it is in chunk %#x", c)
			}
			if a, b := e.M.Peek(chunkAt(e.C, 1)+1), e.M.Peek(chunkAt(e.C, 2)+1); a != uint64(x.room()) || b != uint64(2*x.room()) {
				t.Fatalf("of the one chunk %d words live, of the other one %d", a, b)
			}
			// What was the object's is as it was, but that its cells are frozen.
			if e.M.Peek(x.addr) != x.headWord(ready) {
				t.Fatal("its old head is changed")
			}
			for k := range size {
				if e.M.Peek(x.at(k)) != frozen(x.value(k), 0) {
					t.Fatalf("cell %d is %#x", k, e.M.Peek(x.at(k)))
				}
			}
			wantRefused(t, e, newMover(x), 1, api.MoveDead)
		}
	}
}

func TestTheWordsBehindItsSizeAreNoughts(t *testing.T) {
	// An object takes more words than it has: none of these is touched.
	for size := 1; size <= api.MostSize; size++ {
		e := entered(t, arena(2, 3, 40), 0)
		x := made(t, e, size, false)
		for k := range size {
			e.M.Store(x.at(k), uint64(9+k))
		}
		w := e.M.Peek(chunkAt(e.C, 0))
		e.M.Store(chunkAt(e.C, 0), w+1)
		if out, _ := came(e, x.addr, x.head()); out != api.MoveDone {
			t.Fatal(out)
		}
		y := found(e, x.number())
		for k := range x.room() - 1 {
			v := uint64(0)
			if k < size {
				v = uint64(9 + k)
			}
			if e.M.Peek(y.at(k)) != v {
				t.Fatalf("size %d: word %d is %#x", size, k, e.M.Peek(y.at(k)))
			}
			if k >= size && e.M.Peek(x.at(k)) != 0 {
				t.Fatalf("size %d: word %d was %#x", size, k, e.M.Peek(x.at(k)))
			}
		}
	}
}

func TestEachChunkAndPlace(t *testing.T) {
	for _, chunk := range []int{0, 1, 3} {
		for at := range 79 {
			e, x := placed(t, min(16, 79-at), false)
			// The last object that a chunk has room for ends with it.
			x.addr = baseAt(e.C, chunk) + at
			lay(e, x)
			wantThere(t, e, wantMoved(t, e, x))
		}
	}
}

func TestWithinTheOpenChunk(t *testing.T) {
	// Its own chunk is the open one: it stands elsewhere in it, and as many words live there as did.
	for size := 1; size <= api.MostSize; size++ {
		e, x := placed(t, size, false)
		x.addr = baseAt(e.C, 2)
		lay(e, x)
		y := wantMoved(t, e, x)
		wantThere(t, e, y)
		if y.addr != copyOf(e, x).Addr || e.M.Peek(chunkAt(e.C, 2)+1) != uint64(x.room()) {
			t.Fatal(y)
		}
	}
}

func TestAFreeChunkIsOpened(t *testing.T) {
	for size := 1; size <= api.MostSize; size++ {
		e, x := placed(t, size, true)
		class := classes[size]
		// The open one has no room any more.
		full := chunkWord(open, class, 81-x.room(), 9)
		e.M.Store(chunkAt(e.C, 2), full)
		m := newMover(x)
		wantSeen(t, e, m, x)
		wantLook(t, e, m, openAt(class))
		for _, i := range []int{2, 0, 1, 2, 3} {
			wantLook(t, e, m, chunkAt(e.C, i))
		}
		wantOn(t, e, m, chunkAt(e.C, 3), chunkWord(open, class, 0, 6))
		wantOn(t, e, m, openAt(class), 4)
		wantGot(t, e, m, x)
		wantHead(t, e, m, x, pending)
		wantMarked(t, e, m, x)
		wantCells(t, e, m, x, 0)
		y := wantShown(t, e, m, x)
		wantThere(t, e, y)
		if y.addr != baseAt(e.C, 3) || e.M.Peek(chunkAt(e.C, 3)+1) != uint64(x.room()) || e.M.Peek(chunkAt(e.C, 2)) != full {
			t.Fatal(y)
		}
	}
}

func TestWithoutRoom(t *testing.T) {
	// Nothing is moved, and the object is as it was.
	for size := 1; size <= api.MostSize; size++ {
		for opened := range 2 {
			e, x := placed(t, size, size%2 == 0)
			class := classes[size]
			e.M.Store(chunkAt(e.C, 3), chunkWord(quiet, class, 80, 5))
			e.M.Store(chunkAt(e.C, 2), chunkWord(open, class, 81-x.room(), 9))
			e.M.Store(openAt(class), uint64(3*opened))
			l := words(e.M)
			m := newMover(x)
			wantSeen(t, e, m, x)
			wantLook(t, e, m, openAt(class))
			if opened == 1 {
				wantLook(t, e, m, chunkAt(e.C, 2))
			}
			for i := range 3 {
				wantLook(t, e, m, chunkAt(e.C, i))
			}
			wantStep(t, e, m, chunkAt(e.C, 3), e.M.Peek(chunkAt(e.C, 3)), true)
			wantOut(t, m, api.MoveRoom)
			wantThere(t, e, x)
			if !slices.Equal(words(e.M), l) {
				t.Fatal("something is changed")
			}
		}
	}
}

func TestRoomOfAnotherClassIsNone(t *testing.T) {
	e, x := placed(t, 4, false)
	e.M.Store(chunkAt(e.C, 3), chunkWord(open, 2, 9, 5))
	e.M.Store(openAt(2), 4)
	e.M.Store(openAt(1), 0)
	if out, m := came(e, x.addr, x.head()); out != api.MoveRoom {
		t.Error(out, m)
	}
	wantThere(t, e, x)
}

func TestEachStateOfTheSlot(t *testing.T) {
	for state := range 8 {
		for _, ver := range []int{0, 1, 7, api.MostVer - 2, api.MostVer - 1, api.MostVer} {
			e, x := standing(t, 4, state, ver)
			m := newMover(x)
			switch {
			case state == dropping:
				// Asked first.
				wantRefused(t, e, m, 1, api.MoveKept)
			case state != live:
				wantRefused(t, e, m, 1, api.MoveDead)
			case ver >= api.MostVer-1:
				wantRefused(t, e, m, 1, api.MoveKept)
			default:
				wantThere(t, e, wantMoved(t, e, x))
			}
		}
	}
}

func TestOtherLivesAndPlaces(t *testing.T) {
	// Of another Gen, or elsewhere: it is dead, though the word be Dropping, or of the greatest version.
	for _, state := range []int{live, moving, dropping, free, retired} {
		for _, ver := range []int{0, 3, api.MostVer - 1, api.MostVer} {
			e, x := standing(t, 4, state, ver)
			for _, gen := range []int{0, 1, 2, 4, 9, api.MostGen, 1<<16 + 3, -3} {
				y := x
				y.gen = gen
				wantRefused(t, e, newMover(y), 1, api.MoveDead)
			}
			for _, by := range []int{-40, -5, -1, 1, 2, 5, 40, 80, 1 << 20, 1 << 40} {
				y := x
				y.addr += by
				wantRefused(t, e, newMover(y), 1, api.MoveDead)
			}
			for _, s := range []int{0, 2, 3} {
				y := x
				y.slot = s
				wantRefused(t, e, newMover(y), s, api.MoveDead)
			}
		}
	}
}

func TestTheGreatestVersions(t *testing.T) {
	// The last move is that of MostVer - 2; behind it the object is kept.
	e, x := standing(t, 2, live, api.MostVer-2)
	y := wantMoved(t, e, x)
	wantThere(t, e, y)
	if y.ver != api.MostVer-1 || e.M.Peek(x.at(1)) != frozen(x.value(1), api.MostVer-2) {
		t.Fatal(y)
	}
	wantRefused(t, e, newMover(y), 1, api.MoveKept)
	wantThere(t, e, y)
	letGo(t, e, y)
	wantRefused(t, e, newMover(y), 1, api.MoveDead)
	// One that was stopped is kept then, too, and its copy is dead.
	e, x = standing(t, 2, live, api.MostVer-2)
	m := newMover(x)
	wantBegun(t, e, m, x)
	e.M.Store(slotAt(e.C, 1), x.in(live, api.MostVer-1))
	wantCells(t, e, m, x, 0)
	wantVain(t, e, m, x)
	wantSeen(t, e, m, x)
	wantBuried(t, e, m, x, api.MoveKept)
}

func TestEachKindOfHead(t *testing.T) {
	// What is handed in tells the object; the copy is Pending, and then Ready.
	for _, kind := range []int{0, 1, 2, 3, 4, -1, 1 << 40} {
		for _, own := range []bool{false, true} {
			e, x := placed(t, 4, own)
			h := x.head()
			h.Kind = kind
			m := &mover{Move: move.New(x.addr, h)}
			wantBegun(t, e, m, x)
			wantCells(t, e, m, x, 0)
			wantThere(t, e, wantShown(t, e, m, x))
		}
	}
}

func TestTheHeadThatIsThereIsNotLoaded(t *testing.T) {
	e, x := placed(t, 4, false)
	e.M.Store(x.addr, 1<<62)
	wantThere(t, e, wantMoved(t, e, x))
}

func TestCellsThatAreFrozenAlready(t *testing.T) {
	// In that move: they are copied, and not frozen anew; in a move of a lesser version: they are; of a greater one: they are let be.
	for _, ver := range []int{0, 1, 5, api.MostVer - 2} {
		for k := range 4 {
			for _, in := range []int{0, ver - 1, ver, ver + 1, ver + 2} {
				if in < 0 {
					continue
				}
				e, x := standing(t, 4, live, ver)
				e.M.Store(x.at(k), frozen(x.value(k), in))
				y := wantMoved(t, e, x)
				wantThere(t, e, y)
				if w := e.M.Peek(y.at(k)); w != uint64(x.value(k)) {
					t.Fatalf("the copy's cell is %#x", w)
				}
				if w := e.M.Peek(x.at(k)); w != frozen(x.value(k), max(in, ver)) {
					t.Fatalf("the cell is %#x", w)
				}
			}
		}
	}
}

func TestCellsWithBitsOfNothing(t *testing.T) {
	// A cell that is not frozen has no version, whatever its bits are; none of them comes into the copy.
	e, x := standing(t, 4, live, 1)
	e.M.Store(x.at(0), 5|1<<40|1<<62)
	e.M.Store(x.at(1), 1<<63-1)
	e.M.Store(x.at(2), 6|7<<40)
	e.M.Store(x.at(3), frozen(7, 1)|1<<62)
	y := wantMoved(t, e, x)
	for k, v := range []uint64{5, 1<<40 - 1, 6, 7} {
		if e.M.Peek(y.at(k)) != v {
			t.Errorf("word %d is %#x", k, e.M.Peek(y.at(k)))
		}
	}
}

func TestSlotWordsWithBitsOfNothing(t *testing.T) {
	e, x := standing(t, 2, live, 4)
	e.M.Store(slotAt(e.C, 1), x.word()|5<<61)
	wantThere(t, e, wantMoved(t, e, x))
}

func TestValuesOfAllKinds(t *testing.T) {
	for _, v := range []int{0, 1, 2, 1<<32 - 1, 1 << 32, 1 << 39, api.MostValue - 1, api.MostValue} {
		e, x := placed(t, 16, false)
		for k := range 16 {
			e.M.Store(x.at(k), uint64(v^k))
		}
		y := wantMoved(t, e, x)
		for k := range 16 {
			if e.M.Peek(y.at(k)) != uint64(v^k) {
				t.Fatalf("word %d is %#x", k, e.M.Peek(y.at(k)))
			}
		}
	}
}

func TestAgainAndAgain(t *testing.T) {
	// An object keeps its words and its handle, and its version tells how often it was moved.
	for size := 1; size <= api.MostSize; size++ {
		e := entered(t, arena(3, 20, 60), 0)
		made(t, e, 1, false)
		x := made(t, e, size, size%2 == 0)
		for k := range size {
			e.M.Store(x.at(k), uint64(x.value(k)))
		}
		before := map[int]bool{x.addr: true}
		for n := range 3 * 20 / (1 + classes[size]) / 2 {
			out, m := came(e, x.addr, x.head())
			y := found(e, x.number())
			if spot, _ := m.Spot(); out != api.MoveDone || spot.Addr != y.addr || before[y.addr] {
				t.Fatalf("%d: it came to %d, at %v", n, out, y)
			}
			before[y.addr] = true
			if y.ver != n+1 {
				t.Fatalf("its version is %d", y.ver)
			}
			wantThere(t, e, y)
			wantLiving(t, e)
			if out, _ := came(e, x.addr, x.head()); out != api.MoveDead {
				t.Fatalf("it came to %d", out)
			}
			x = y
		}
	}
}

func TestTillThereIsNoRoom(t *testing.T) {
	e := entered(t, arena(1, 3, 20), 0)
	x := made(t, e, 4, false)
	for n := range 11 {
		if out, _ := came(e, x.addr, x.head()); out != api.MoveDone {
			t.Fatal(n, out)
		}
		x = found(e, x.number())
	}
	l := words(e.M)
	out, m := came(e, x.addr, x.head())
	if _, is := m.Spot(); is || out != api.MoveRoom || !slices.Equal(words(e.M), l) {
		t.Error(out, is)
	}
	if x.ver != 11 || x.addr != baseAt(e.C, 2)+15 {
		t.Error(x)
	}
}

func TestOneOfNine(t *testing.T) {
	// The chunk of which one object of nine lives: the handle is the same, the object stands elsewhere.
	for which := range 9 {
		e := entered(t, arena(9, 2, 27), 0)
		var l []thing
		for range 9 {
			l = append(l, made(t, e, 2, false))
		}
		for i, x := range l {
			if i != which {
				letGo(t, e, x)
			}
		}
		e.M.Store(l[which].at(1), 77)
		e.M.Store(chunkAt(e.C, 0), chunkWord(evac, 0, 27, 2))
		for i, x := range l {
			want := api.MoveDead
			if i == which {
				want = api.MoveDone
			}
			if out, m := came(e, x.addr, x.head()); out != want {
				t.Fatal(out, m)
			}
		}
		if y := found(e, l[which].number()); y.addr != baseAt(e.C, 1) || e.M.Peek(y.at(1)) != 77 {
			t.Fatal(y)
		}
		wantLiving(t, e)
		if e.M.Peek(chunkAt(e.C, 0)+1) != 0 {
			t.Fatal("words live where none does")
		}
	}
}

func TestTheGreatestArena(t *testing.T) {
	c := api.Config{Threads: api.MostThreads, Slots: api.MostSlots, Chunks: api.MostChunks, Words: api.MostChunk, Gens: api.MostGen, Sparse: 600, Tries: 16}
	e := entered(t, c, api.Compactor)
	x := thing{slot: c.Slots - 1, gen: api.MostGen, state: live, ver: api.MostVer - 2, size: 16, own: true, addr: layout.Len(c) - 17}
	lay(e, x)
	for i := range api.MostChunks {
		layChunk(e, i, chunkWord(evac, 3, 256, 1), 17)
	}
	e.M.Store(chunkAt(c, 62), chunkWord(open, 3, 239, api.MostStamp))
	e.M.Store(openAt(3), 63)
	y := wantMoved(t, e, x)
	wantThere(t, e, y)
	if y.addr != layout.Len(c)-256-17 || y.ver != api.MostVer-1 {
		t.Error(y)
	}
}

func TestTheLeastArena(t *testing.T) {
	for size := 1; size <= api.MostSize; size++ {
		e := entered(t, api.Config{Threads: 1, Slots: 1, Chunks: 1, Words: api.LeastChunk, Gens: 1, Tries: 1}, 0)
		x := made(t, e, size, false)
		want := api.MoveDone
		if 2*x.room() > api.LeastChunk {
			want = api.MoveRoom
		}
		if out, m := came(e, x.addr, x.head()); out != want {
			t.Error(size, out, m)
		}
		letGo(t, e, x)
		if out, m := came(e, x.addr, x.head()); out != api.MoveDead {
			t.Error(size, out, m)
		}
	}
}

func TestWhatIsDoneStaysDone(t *testing.T) {
	type ended struct {
		m    *move.Move
		out  int
		spot api.Spot
		is   bool
	}
	e, x := placed(t, 4, false)
	var l []ended
	for i := range 5 {
		if i == 2 {
			e.M.Store(slotAt(e.C, 1), x.in(dropping, 4))
		}
		if i == 3 {
			e.M.Store(slotAt(e.C, 1), x.in(live, 4))
			e.M.Store(openAt(1), 0)
			e.M.Store(chunkAt(e.C, 3), chunkWord(quiet, 0, 0, 0))
		}
		if i == 4 {
			x.slot = 99
		}
		out, m := came(e, x.addr, x.head())
		if want := []int{api.MoveDone, api.MoveDead, api.MoveKept, api.MoveRoom, api.MoveDead}[i]; out != want {
			t.Fatalf("%d: it came to %d, not %d", i, out, want)
		}
		spot, is := m.Spot()
		l = append(l, ended{m, out, spot, is})
	}
	x.slot = 1
	lay(e, x)
	wantNoStep(t, e, func() {
		for _, v := range []layout.Env{e, {}, {C: e.C}, {M: e.M}, e} {
			for _, k := range l {
				if !k.m.Step(v) {
					t.Error("it was done")
				}
				if spot, is := k.m.Spot(); k.m.Out() != k.out || spot != k.spot || is != k.is {
					t.Error(k.m.Out(), spot, is, k)
				}
			}
		}
	})
}

func TestNobodyMoves(t *testing.T) {
	e, _ := placed(t, 4, false)
	wantNoStep(t, e, func() {
		var m *move.Move
		for range 5 {
			if !m.Step(e) || !m.Step(layout.Env{}) {
				t.Error("a nil one has nothing to do")
			}
			if spot, is := m.Spot(); m.Out() != 0 || is || spot != (api.Spot{}) {
				t.Error(m.Out(), spot, is)
			}
		}
	})
	// One that nobody told what to move.
	m := &mover{Move: &move.Move{}}
	wantRefused(t, e, m, 0, api.MoveDead)
}

func TestToAskIsNoStep(t *testing.T) {
	e, x := placed(t, 4, false)
	m := newMover(x)
	for is := false; !is; is = m.Step(e) {
		wantNoStep(t, e, func() {
			for range 5 {
				m.Out()
				m.Spot()
			}
		})
	}
}

func TestWhatIsToldAndHandedInIsTheCallersOwn(t *testing.T) {
	e, x := placed(t, 4, true)
	h := x.head()
	m := &mover{Move: move.New(x.addr, h)}
	h.Kind, h.Size, h.Slot, h.Gen, h.Own = 1, 2, 3, 4, false
	wantBegun(t, e, m, x)
	spot, _ := m.Spot()
	spot.Addr, spot.Chunk = 5, 6
	wantCells(t, e, m, x, 0)
	wantThere(t, e, wantShown(t, e, m, x))
	spot, _ = m.Spot()
	spot.Addr, spot.Chunk = 5, 6
	wantOut(t, m, api.MoveDone)
}

func TestMovesShareNothing(t *testing.T) {
	// Two that were copied midway go their own ways, wherever that was.
	for ahead := range 24 {
		e, x := placed(t, 4, false)
		half := *move.New(x.addr, x.head())
		for range ahead {
			half.Step(e)
		}
		other, again := half, half
		out := half.Out()
		spot, is := half.Spot()
		for !half.Step(e) {
		}
		for !other.Step(e) {
		}
		if half.Out() != api.MoveDone || other.Out() == 0 {
			t.Fatal(half.Out(), other.Out())
		}
		if at, got := again.Spot(); again.Out() != out || at != spot || got != is {
			t.Fatal(again.Out(), at, got)
		}
	}
	if move.New(0, api.Head{}) == move.New(0, api.Head{}) {
		t.Error("each is one of its own")
	}
}

// wantLiving asks, when nobody is on the way, that as many words are counted to live in each chunk as do, and that live objects are apart: each in words of a chunk of its class that were given out, and by a head that is Ready.
func wantLiving(t *testing.T, e layout.Env) {
	t.Helper()
	count := make([]int, e.C.Chunks)
	places := map[int]int{}
	for s := range e.C.Slots {
		w := e.M.Peek(slotAt(e.C, s))
		if !lives(w) {
			continue
		}
		x := found(e, handle(s, genOf(w)))
		i := chunkOf(e.C, x.addr)
		c := e.M.Peek(chunkAt(e.C, i))
		at := x.addr - baseAt(e.C, i)
		if kindOf(c) != open && kindOf(c) != evac || classOf(c) != classes[x.size] || at%x.room() != 0 || at+x.room() > usedOf(c) {
			t.Fatalf("%v stands in chunk %#x, at %d", x, c, at)
		}
		if is, other := places[x.addr]; other {
			t.Fatalf("slots %d and %d are of one object", s, is)
		}
		places[x.addr] = s
		if h := e.M.Peek(x.addr); h != x.headWord(ready) {
			t.Fatalf("the head of %v is %#x", x, h)
		}
		count[i] += x.room()
	}
	for i, n := range count {
		if got := e.M.Peek(chunkAt(e.C, i) + 1); got != uint64(n) {
			t.Fatalf("in chunk %d %d words are counted to live, not %d", i, int64(got), n)
		}
	}
}
