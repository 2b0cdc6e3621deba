package move_test

import (
	"go/parser"
	"go/token"
	"math"
	"os"
	"slices"
	"strings"
	"testing"

	"footlocker/access"
	"footlocker/api"
	"footlocker/layout"
	"footlocker/mem"
	"footlocker/move"
)

// odd is numbers of all kinds, most of which may not be.
func odd() []int {
	return []int{math.MinInt, math.MinInt + 1, -1 << 32, -65, -6, -5, -4, -3, -2, -1, 0, 1, 2, 3, 4, 5, 6, 7, 9, 16, 17, 18, 63, 64, 65, 256, 257, 1 << 16, 1<<16 + 2, 1 << 20, 1 << 32, 1<<32 + 2, 1<<40 - 1, 1 << 40, math.MaxInt/2 - 4, math.MaxInt / 2, math.MaxInt - 7, math.MaxInt - 1, math.MaxInt}
}

func TestWhoeverDoesIt(t *testing.T) {
	// The compactor, or one that is no thread, does as all do.
	for _, who := range append(odd(), api.Compactor) {
		e, x := placed(t, 8, false)
		e.Who = who
		y := wantMoved(t, e, x)
		wantThere(t, e, y)
		wantRefused(t, e, newMover(x), 1, api.MoveDead)
		wantRefused(t, e, &mover{Move: move.New(0, api.Head{Slot: 2})}, 2, api.MoveDead)
	}
}

// wantEnd asks that one whom nobody disturbs is done behind as many steps as there are, at most, wherever it works, each of which touches one word at most; and that it came to what it may come to.
func wantEnd(t *testing.T, e layout.Env, m *move.Move) int {
	t.Helper()
	// To get words takes three for each chunk at most, a cell three, and the rest less than ten.
	most := 3*api.MostChunks + 3*api.MostSize + 20
	for n := 0; ; n++ {
		if n > most {
			t.Fatalf("%v: it is not done", e.C)
		}
		now := e.Now()
		done := m.Step(e)
		if e.Now() > now+1 || e.Now() > now && e.M.Last().Who != e.Who {
			t.Fatalf("%v: %d steps, the last one %v", e.C, e.Now()-now, e.M.Last())
		}
		if done {
			break
		}
		if m.Out() != 0 {
			t.Fatalf("%v: it came to %d ahead of its end", e.C, m.Out())
		}
	}
	return wantMay(t, m)
}

// wantMay asks that it came to what it may come to.
func wantMay(t *testing.T, m *move.Move) int {
	t.Helper()
	spot, is := m.Spot()
	out := m.Out()
	if out < api.MoveDone || out > api.MoveRoom || out == api.MoveDone && !is || out == api.MoveRoom && is || !is && spot != (api.Spot{}) {
		t.Fatalf("it came to %d, with a copy at %v, %v", out, spot, is)
	}
	return out
}

// maimed is arenas of which one or two things may not be.
func maimed(n int) []api.Config {
	l := make([]api.Config, 9)
	for i := range l {
		l[i] = arena(4, 4, 80)
	}
	l[0].Threads = n
	l[1].Slots = n
	l[2].Chunks = n
	l[3].Words = n
	l[4].Gens = n
	l[5].Sparse = n
	l[6].Tries = n
	l[7].Threads, l[7].Chunks = n, n
	l[8].Slots, l[8].Words = n, n
	return l
}

func TestArenasThatMayNotBe(t *testing.T) {
	// Nothing lives there, and nothing is touched.
	one, _ := mem.New(1)
	e, x := placed(t, 4, false)
	for _, n := range odd() {
		for _, c := range append(maimed(n), api.Config{}, api.Config{Slots: n}, api.Config{Threads: n, Slots: 3}) {
			for _, m := range []*mem.Mem{nil, {}, one} {
				v := layout.Env{C: c, M: m, Who: n}
				wantNone(t, v, x.addr, x.head())
				wantNone(t, v, n, api.Head{Size: n, Slot: n, Gen: n})
			}
			if !layout.Check(c) {
				wantNone(t, layout.Env{C: c, M: e.M, Who: n}, x.addr, x.head())
			}
		}
	}
	wantThere(t, e, wantMoved(t, e, x))
}

func TestArenasThatDoNotFitTheirMemory(t *testing.T) {
	for chunks := 1; chunks <= api.MostChunks; chunks += 7 {
		for _, slots := range []int{1, 2, 3, 4, 9, 50, api.MostSlots} {
			for _, words := range []int{17, 21, 40, 80, 256} {
				for s := range 5 {
					e, x := placed(t, 4, false)
					e.C = arena(slots, chunks, words)
					h := x.head()
					h.Slot = s
					wantEnd(t, e, move.New(x.addr, h))
				}
			}
		}
	}
}

func TestMemoriesOfEachLength(t *testing.T) {
	whole, x := placed(t, 4, false)
	l := words(whole.M)
	for n := 1; n <= len(l)+1; n++ {
		m, _ := mem.New(n)
		for a := range min(n, len(l)) {
			m.Store(a, l[a])
		}
		e := layout.Env{C: whole.C, M: m, Who: 1}
		if n < len(l) {
			wantNone(t, e, x.addr, x.head())
			continue
		}
		wantThere(t, e, wantMoved(t, e, x))
	}
}

func TestSlotsThatAreNone(t *testing.T) {
	e, x := placed(t, 4, false)
	for _, s := range odd() {
		if s >= 0 && s < e.C.Slots {
			continue
		}
		h := x.head()
		h.Slot = s
		wantNone(t, e, x.addr, h)
	}
	wantThere(t, e, x)
}

func TestSizesThatAreNone(t *testing.T) {
	// There are no words of their class, wherever they stand; the object is as it was.
	for _, size := range append(odd(), 17, 18, 100, 1<<16-1) {
		if size >= 1 && size <= api.MostSize {
			continue
		}
		for _, at := range []int{0, 5, 79} {
			e, x := placed(t, 4, false)
			x.addr = baseAt(e.C, 1) + at
			e.M.Store(slotAt(e.C, 1), x.word())
			h := x.head()
			h.Size = size
			m := &mover{Move: move.New(x.addr, h)}
			wantSeen(t, e, m, x)
			wantNoStep(t, e, func() {
				if !m.Step(e) {
					t.Fatalf("there is no room for %d words", size)
				}
				wantOut(t, m, api.MoveRoom)
			})
		}
	}
}

func TestObjectsInNoChunk(t *testing.T) {
	// Nobody made them: nothing is changed.
	c := arena(4, 4, 80)
	for _, addr := range []int{0, 1, 2, 9, slotAt(c, 1), chunkAt(c, 0), baseAt(c, 0) - 1, baseAt(c, 4), baseAt(c, 4) + 1, api.MostAddress} {
		for _, size := range []int{1, 2, 16} {
			e, x := placed(t, size, false)
			x.addr = addr
			e.M.Store(slotAt(c, 1), x.word())
			wantRefused(t, e, newMover(x), 1, api.MoveDead)
		}
	}
}

func TestObjectsInTwoChunks(t *testing.T) {
	for chunk := range 4 {
		for size := 1; size <= api.MostSize; size++ {
			for over := range size {
				e, x := placed(t, size, false)
				x.addr = baseAt(e.C, chunk) + 79 - over
				e.M.Store(slotAt(e.C, 1), x.word())
				wantRefused(t, e, newMover(x), 1, api.MoveDead)
			}
		}
	}
}

func TestAnyAddressAndHead(t *testing.T) {
	// Whatever is handed in: it ends; what is not the object that lives there is not moved, and nothing is changed.
	n := uint64(5)
	pick := func(l []int) (k int) {
		k, n = mixed(n, len(l))
		return l[k]
	}
	moved := 0
	for i := range 20000 {
		e, x := placed(t, 4, i%2 == 0)
		h := api.Head{Kind: pick(odd()), Size: pick(odd()), Slot: pick(odd()), Gen: pick(odd()), Own: x.own}
		addr := pick(odd())
		if i%3 < 2 {
			addr = x.addr
		}
		if i%5 < 4 {
			h.Slot = 1
		}
		if i%7 < 5 {
			h.Gen = 3
		}
		if i%11 < 2 {
			h.Size = 4
		}
		l := words(e.M)
		out := wantEnd(t, e, move.New(addr, h))
		if addr != x.addr || h.Slot != 1 || h.Gen != 3 || layout.Class(h.Size) < 0 {
			if out == api.MoveDone || !slices.Equal(words(e.M), l) {
				t.Fatalf("%v at %d came to %d", h, addr, out)
			}
			continue
		}
		if h.Size == 4 {
			moved++
			if out != api.MoveDone || e.M.Peek(slotAt(e.C, 1)) != slotWord(live, copyOf(e, x).Addr, 3, 1) {
				t.Fatalf("%v came to %d", h, out)
			}
		}
	}
	if moved < 100 {
		t.Errorf("%d were moved", moved)
	}
}

func TestWhatAnyWordsLeadTo(t *testing.T) {
	// In a memory that nobody laid so it ends, too.
	n := uint64(5)
	for range 500 {
		e := filled(t, arena(4, 4, 20), 1)
		for a := range e.M.Len() {
			n = n*6364136223846793005 + 1442695040888963407
			e.M.Store(a, n>>(n>>58))
		}
		for s := range 4 {
			w := e.M.Peek(slotAt(e.C, s))
			for _, addr := range []int{addrOf(w), baseAt(e.C, s)} {
				if s%2 == 0 {
					w = slotWord(live, addr, genOf(w), verOf(w))
					e.M.Store(slotAt(e.C, s), w)
				}
				wantEnd(t, e, move.New(addr, api.Head{Kind: s, Size: int(n >> 60), Slot: s, Gen: genOf(w)}))
			}
		}
	}
}

func TestAnEnvThatIsAnotherOneEachTime(t *testing.T) {
	// Who changes the arena midway is answered all the same; and what took effect is told.
	one, _ := mem.New(1)
	for ahead := range 22 {
		for i := range 9 {
			big, x := placed(t, 4, false)
			small := filled(t, arena(1, 1, 17), 1)
			// It has the slot, but not the place.
			short := filled(t, arena(2, 1, 17), 1)
			v := []layout.Env{small, {}, {C: big.C}, {M: big.M}, {C: small.C, M: big.M}, {C: big.C, M: one}, short, {C: arena(2, 4, 80), M: big.M}, {C: arena(2, 1, 17), M: big.M}}[i]
			m := move.New(x.addr, x.head())
			for range ahead {
				m.Step(big)
			}
			w := big.M.Peek(slotAt(big.C, 1))
			out := wantEnd(t, v, m)
			if is := w == slotWord(live, copyOf(big, x).Addr, 3, 1); i < 7 && is != (out == api.MoveDone) {
				t.Fatalf("behind %d steps it came to %d", ahead, out)
			}
		}
	}
}

func TestAnEnvThatIsNoneWhereTheCopyIsNotUsed(t *testing.T) {
	// To what it comes is known by then, though the copy can't be made dead any more.
	for _, out := range []int{api.MoveKept, api.MoveDead} {
		e, x := placed(t, 2, false)
		m := newMover(x)
		wantBegun(t, e, m, x)
		wantCells(t, e, m, x, 0)
		e.M.Store(slotAt(e.C, 1), x.in(dropping, 1))
		if out == api.MoveDead {
			e.M.Store(slotAt(e.C, 1), x.in(free, 1))
		}
		wantVain(t, e, m, x)
		wantSeen(t, e, m, x)
		wantNoStep(t, e, func() {
			if !m.Step(layout.Env{M: e.M}) {
				t.Fatal("there is nothing to be done")
			}
		})
		wantOut(t, m, out)
	}
}

func TestTheSameStepsTellTheSame(t *testing.T) {
	run := func() ([]int, []uint64) {
		e := entered(t, arena(9, 6, 100), 0)
		var l []thing
		for s := range 9 {
			l = append(l, made(t, e, 1+s, false))
		}
		one, two := make([]*move.Move, 2), make([]*access.Access, 2)
		var told []int
		for i := range 900 {
			e.Who = i * i % 7 % 4
			x := l[i/9%9]
			k := e.Who % 2
			if e.Who < 2 {
				if one[k].Step(e) {
					told = append(told, one[k].Out())
					one[k] = move.New(found(e, x.number()).addr, x.head())
				}
			} else if two[k].Step(e) {
				told = append(told, two[k].Done().Value)
				two[k] = access.New(x.write(i%x.size, i), false)
			}
		}
		return told, words(e.M)
	}
	told, l := run()
	if !slices.Contains(told, api.MoveDone) {
		t.Error(told)
	}
	for range 5 {
		if again, k := run(); !slices.Equal(again, told) || !slices.Equal(k, l) {
			t.Error(told, again)
		}
	}
}

func TestStandsOnThoseBelowAlone(t *testing.T) {
	files, err := os.ReadDir(".")
	if err != nil {
		t.Fatal(err)
	}
	below := []string{`"footlocker/api"`, `"footlocker/layout"`, `"footlocker/place"`, `"footlocker/word"`}
	for _, f := range files {
		name := f.Name()
		if !strings.HasSuffix(name, ".go") || strings.HasSuffix(name, "_test.go") {
			continue
		}
		parsed, err := parser.ParseFile(token.NewFileSet(), name, nil, parser.ImportsOnly)
		if err != nil {
			t.Fatal(err)
		}
		for _, i := range parsed.Imports {
			if !slices.Contains(below, i.Path.Value) {
				t.Errorf("%s imports %s", name, i.Path.Value)
			}
		}
	}
}
