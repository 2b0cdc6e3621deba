package word_test

import (
	"math"
	"testing"

	"footlocker/api"
	"footlocker/word"
)

// edges is numbers at and beside every bound that a place of a word has, and far beyond.
func edges() []int {
	return []int{
		math.MinInt, -1 << 40, -api.MostSlots, -2, -1, 0, 1, 2, 3, 4, 7, 8, 63, 64,
		api.MostGen, api.MostSlots, api.MostAddress, api.MostAddress + 1, api.MostVer, api.MostVer + 1,
		api.MostStamp, api.MostStamp + 1, api.MostValue, api.MostValue + 1, math.MaxInt,
	}
}

// bounded is what the chapter makes of a number that is packed.
func bounded(n, most int) int {
	return max(0, min(n, most))
}

// words is words of all kinds: none, all and single bits, and a thousand that are mixed by a rule.
func words() []uint64 {
	l := []uint64{0, ^uint64(0)}
	for b := range 64 {
		l = append(l, 1<<b, ^(uint64(1) << b), 1<<b-1)
	}
	x := uint64(1)
	for range 1000 {
		x = x*6364136223846793005 + 1442695040888963407
		l = append(l, x^x>>29)
	}
	return l
}

func TestHandleExample(t *testing.T) {
	if n := word.PutHandle(api.Handle{Slot: 3, Gen: 1}); n != 65539 {
		t.Error(n)
	}
	if h, is := word.Handle(65539); !is || h != (api.Handle{Slot: 3, Gen: 1}) {
		t.Error(h, is)
	}
}

func TestHandlePutTogether(t *testing.T) {
	for _, slot := range edges() {
		for _, gen := range edges() {
			want := api.Handle{Slot: bounded(slot, api.MostSlots-1), Gen: bounded(gen, api.MostGen)}
			n := word.PutHandle(api.Handle{Slot: slot, Gen: gen})
			if n != uint64(want.Gen)*api.MostSlots+uint64(want.Slot) {
				t.Errorf("slot %d, gen %d: %d", slot, gen, n)
			}
			h, is := word.Handle(n)
			if want.Gen == 0 {
				want = api.Handle{}
			}
			if h != want || is != (want.Gen != 0) {
				t.Errorf("slot %d, gen %d came back as %v, %v", slot, gen, h, is)
			}
		}
	}
}

func TestHandleAllSlotsAndGens(t *testing.T) {
	for i := range api.MostSlots {
		for _, want := range []api.Handle{{Slot: i, Gen: 1}, {Slot: i, Gen: api.MostGen}} {
			if h, is := word.Handle(word.PutHandle(want)); !is || h != want {
				t.Fatal(want, h, is)
			}
		}
		want := api.Handle{Slot: api.MostSlots - 1, Gen: i}
		if h, is := word.Handle(word.PutHandle(want)); i > 0 && (!is || h != want) {
			t.Fatal(want, h, is)
		}
	}
}

func TestHandleNone(t *testing.T) {
	for slot := range api.MostSlots {
		if h, is := word.Handle(uint64(slot)); is || h != (api.Handle{}) {
			t.Fatal("gen 0", slot, h, is)
		}
	}
	for b := 32; b < 64; b++ {
		for _, low := range []uint64{0, 3, 65536, 65539, 1<<32 - 1} {
			if h, is := word.Handle(1<<b | low); is || h != (api.Handle{}) {
				t.Error("more bits", b, low, h, is)
			}
		}
	}
	if h, is := word.Handle(^uint64(0)); is || h != (api.Handle{}) {
		t.Error("all bits", h, is)
	}
	if h, is := word.Handle(1<<32 - 1); !is || h != (api.Handle{Slot: api.MostSlots - 1, Gen: api.MostGen}) {
		t.Error("the greatest handle", h, is)
	}
}

func TestSlotPutTogether(t *testing.T) {
	s := api.Slot{State: api.StateDropping, Addr: 5, Gen: 6, Ver: 7}
	if w := word.PutSlot(s); w != 4|5<<3|6<<23|7<<39 {
		t.Errorf("%#x", w)
	}
	for state := range 8 {
		for _, n := range edges() {
			for _, other := range []int{-9, 0, 1, math.MaxInt} {
				s := api.Slot{State: state, Addr: n, Gen: other, Ver: n}
				want := api.Slot{State: state, Addr: bounded(n, api.MostAddress), Gen: bounded(other, api.MostGen), Ver: bounded(n, api.MostVer)}
				if got := word.Slot(word.PutSlot(s)); got != want {
					t.Errorf("%v came back as %v", s, got)
				}
			}
		}
	}
}

func TestSlotStates(t *testing.T) {
	states := []int{api.StateFree, api.StateLive, api.StateMoving, api.StateRetired, api.StateDropping}
	for i, state := range states {
		if w := word.PutSlot(api.Slot{State: state}); w != uint64(i) || word.Slot(w).State != i {
			t.Error(state, w)
		}
	}
}

func TestSlotOfAnyWord(t *testing.T) {
	for _, w := range words() {
		want := api.Slot{State: int(w % 8), Addr: int(w >> 3 % (1 << 20)), Gen: int(w >> 23 % (1 << 16)), Ver: int(w >> 39 % (1 << 22))}
		if got := word.Slot(w); got != want {
			t.Errorf("%#x: %v, not %v", w, got, want)
		}
		if back := word.PutSlot(word.Slot(w)); back != w&(1<<61-1) {
			t.Errorf("%#x is packed anew as %#x", w, back)
		}
	}
}

func TestChunkPutTogether(t *testing.T) {
	c := api.Chunk{State: api.ChunkEvac, Class: 5, Used: 6, Stamp: 7}
	if w := word.PutChunk(c); w != 2|5<<2|6<<8|7<<28 {
		t.Errorf("%#x", w)
	}
	for state := range 4 {
		for _, n := range edges() {
			for _, other := range []int{-9, 0, 1, math.MaxInt} {
				c := api.Chunk{State: state, Class: other, Used: n, Stamp: n}
				want := api.Chunk{State: state, Class: bounded(other, 63), Used: bounded(n, 1<<20-1), Stamp: bounded(n, api.MostStamp)}
				if got := word.Chunk(word.PutChunk(c)); got != want {
					t.Errorf("%v came back as %v", c, got)
				}
			}
		}
	}
}

func TestChunkStates(t *testing.T) {
	states := []int{api.ChunkFree, api.ChunkOpen, api.ChunkEvac, api.ChunkQuiet}
	for i, state := range states {
		if w := word.PutChunk(api.Chunk{State: state}); w != uint64(i) || word.Chunk(w).State != i {
			t.Error(state, w)
		}
	}
}

func TestChunkOfAnyWord(t *testing.T) {
	for _, w := range words() {
		want := api.Chunk{State: int(w % 4), Class: int(w >> 2 % (1 << 6)), Used: int(w >> 8 % (1 << 20)), Stamp: int(w >> 28)}
		if got := word.Chunk(w); got != want {
			t.Errorf("%#x: %v, not %v", w, got, want)
		}
		if back := word.PutChunk(word.Chunk(w)); back != w {
			t.Errorf("%#x is packed anew as %#x", w, back)
		}
	}
}

func TestHeadPutTogether(t *testing.T) {
	h := api.Head{Kind: api.HeadReady, Size: 5, Slot: 6, Gen: 7, Own: true}
	if w := word.PutHead(h); w != 2|5<<2|6<<18|7<<34|1<<50 {
		t.Errorf("%#x", w)
	}
	for kind := range 4 {
		for _, n := range edges() {
			for _, own := range []bool{false, true} {
				h := api.Head{Kind: kind, Size: n, Slot: 9, Gen: n, Own: own}
				want := api.Head{Kind: kind, Size: bounded(n, 1<<16-1), Slot: 9, Gen: bounded(n, api.MostGen), Own: own}
				if got := word.Head(word.PutHead(h)); got != want {
					t.Errorf("%v came back as %v", h, got)
				}
				h = api.Head{Kind: n, Size: 9, Slot: n, Gen: 9, Own: own}
				want = api.Head{Kind: bounded(n, 3), Size: 9, Slot: bounded(n, api.MostSlots-1), Gen: 9, Own: own}
				if got := word.Head(word.PutHead(h)); got != want {
					t.Errorf("%v came back as %v", h, got)
				}
			}
		}
	}
}

func TestHeadKinds(t *testing.T) {
	kinds := []int{api.HeadNone, api.HeadPending, api.HeadReady, api.HeadDead}
	for i, kind := range kinds {
		if w := word.PutHead(api.Head{Kind: kind}); w != uint64(i) || word.Head(w).Kind != i {
			t.Error(kind, w)
		}
	}
}

func TestHeadOwn(t *testing.T) {
	if w := word.PutHead(api.Head{Own: true}); w != 1<<50 || word.Head(w) != (api.Head{Own: true}) {
		t.Errorf("%#x", w)
	}
	if word.PutHead(api.Head{}) != 0 || word.Head(0).Own || word.Head(^uint64(1<<50)).Own {
		t.Error("not own")
	}
}

func TestHeadOfAnyWord(t *testing.T) {
	for _, w := range words() {
		want := api.Head{Kind: int(w % 4), Size: int(w >> 2 % (1 << 16)), Slot: int(w >> 18 % (1 << 16)), Gen: int(w >> 34 % (1 << 16)), Own: w>>50%2 == 1}
		if got := word.Head(w); got != want {
			t.Errorf("%#x: %v, not %v", w, got, want)
		}
		if back := word.PutHead(word.Head(w)); back != w&(1<<51-1) {
			t.Errorf("%#x is packed anew as %#x", w, back)
		}
	}
}

func TestCellPutTogether(t *testing.T) {
	if w := word.PutCell(api.Cell{Value: 5, Frozen: true, Ver: 6}); w != 5|6<<40|1<<63 {
		t.Errorf("%#x", w)
	}
	for _, value := range edges() {
		for _, ver := range edges() {
			c := api.Cell{Value: value, Frozen: true, Ver: ver}
			want := api.Cell{Value: bounded(value, api.MostValue), Frozen: true, Ver: bounded(ver, api.MostVer)}
			if got := word.Cell(word.PutCell(c)); got != want {
				t.Errorf("%v came back as %v", c, got)
			}
		}
	}
}

func TestCellFrozenAtVerNought(t *testing.T) {
	w := word.PutCell(api.Cell{Frozen: true})
	if w != 1<<63 || word.Cell(w) != (api.Cell{Frozen: true}) {
		t.Errorf("%#x", w)
	}
}

func TestCellThatIsNotFrozenHasNoVer(t *testing.T) {
	for _, value := range edges() {
		for _, ver := range edges() {
			w := word.PutCell(api.Cell{Value: value, Ver: ver})
			want := bounded(value, api.MostValue)
			if w != uint64(want) {
				t.Errorf("value %d, ver %d: %#x", value, ver, w)
			}
			if got := word.Cell(w); got != (api.Cell{Value: want}) {
				t.Errorf("value %d, ver %d came back as %v", value, ver, got)
			}
		}
	}
	if got := word.Cell(9<<40 | 5); got != (api.Cell{Value: 5}) {
		t.Error(got)
	}
}

func TestCellOfAnyWord(t *testing.T) {
	for _, w := range words() {
		want := api.Cell{Value: int(w % (1 << 40))}
		kept := w & (1<<40 - 1)
		if w>>63 == 1 {
			want.Frozen = true
			want.Ver = int(w >> 40 % (1 << 22))
			kept = w &^ (1 << 62)
		}
		if got := word.Cell(w); got != want {
			t.Errorf("%#x: %v, not %v", w, got, want)
		}
		if back := word.PutCell(word.Cell(w)); back != kept {
			t.Errorf("%#x is packed anew as %#x", w, back)
		}
	}
}

func TestTopPutTogether(t *testing.T) {
	if w := word.PutTop(5, 6); w != 6|6<<17 {
		t.Errorf("%#x", w)
	}
	if w := word.PutTop(0, 0); w != 1 {
		t.Errorf("%#x", w)
	}
	for _, slot := range edges() {
		for _, count := range edges() {
			w := word.PutTop(slot, count)
			first := uint64(bounded(slot, api.MostSlots-1)) + 1
			if slot < 0 {
				first = 0
			}
			if w != first|uint64(bounded(count, api.MostStamp))<<17 {
				t.Errorf("slot %d, count %d: %#x", slot, count, w)
			}
			s, c := word.Top(w)
			if s != int(first)-1 || c != bounded(count, api.MostStamp) {
				t.Errorf("slot %d, count %d came back as %d, %d", slot, count, s, c)
			}
		}
	}
}

func TestTopAllSlots(t *testing.T) {
	for slot := range api.MostSlots {
		w := word.PutTop(slot, 9)
		if s, c := word.Top(w); w != uint64(slot)+1|9<<17 || s != slot || c != 9 {
			t.Fatal(slot, w, s, c)
		}
	}
}

func TestTopNone(t *testing.T) {
	for _, slot := range []int{-1, -2, -api.MostSlots - 1, math.MinInt} {
		w := word.PutTop(slot, 6)
		if s, c := word.Top(w); w != 6<<17 || s != -1 || c != 6 {
			t.Error(slot, w, s, c)
		}
	}
	if s, c := word.Top(0); s != -1 || c != 0 {
		t.Error(s, c)
	}
}

func TestTopTooGreat(t *testing.T) {
	for _, slot := range []int{api.MostSlots, api.MostSlots + 1, 1<<17 - 2, 1<<17 - 1, 1 << 17, math.MaxInt - 1, math.MaxInt} {
		if s, c := word.Top(word.PutTop(slot, 6)); s != api.MostSlots-1 || c != 6 {
			t.Error(slot, s, c)
		}
	}
}

func TestTopOfAnyWord(t *testing.T) {
	for _, w := range words() {
		if s, c := word.Top(w); s != int(w%(1<<17))-1 || c != int(w>>17%(1<<36)) {
			t.Errorf("%#x: %d, %d", w, s, c)
		}
	}
}
