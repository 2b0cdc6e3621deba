package drop_test

import (
	"go/parser"
	"go/token"
	"math"
	"os"
	"slices"
	"strings"
	"testing"

	"footlocker/api"
	"footlocker/drop"
	"footlocker/layout"
	"footlocker/mem"
)

// odd is numbers of all kinds, most of which may not be.
func odd() []int {
	return []int{math.MinInt, math.MinInt + 1, -1 << 32, -65, -6, -5, -4, -3, -2, -1, 0, 1, 2, 3, 4, 5, 6, 7, 9, 16, 17, 18, 63, 64, 65, 256, 257, 1 << 16, 1<<16 + 2, 1 << 20, 1 << 32, 1<<32 + 2, math.MaxInt/2 - 4, math.MaxInt / 2, math.MaxInt - 7, math.MaxInt - 1, math.MaxInt}
}

// numbers is numbers of all kinds as handles, or as words.
func numbers() []uint64 {
	l := []uint64{handle(0, 1), handle(1, 3), handle(1, 1), handle(2, 1), handle(65535, 65535)}
	for _, n := range odd() {
		l = append(l, uint64(n))
	}
	return l
}

func TestWhoeverDoesIt(t *testing.T) {
	// The compactor, or one that is no thread, does as all do.
	for _, who := range odd() {
		e, x := placed(t, 8, false)
		e.Who = who
		wantNotOwn(t, e, x)
		wantDropped(t, e, x)
		wantNone(t, e, x.number(), false)
	}
}

// wantEnd asks that one whom nobody disturbs is done behind as many steps as there are, at most, wherever it works, and what it may come to.
func wantEnd(t *testing.T, e layout.Env, number uint64, own bool) api.Done {
	t.Helper()
	d := drop.New(number, own)
	// Two for each cell, and eight more; to help takes as many at most.
	for most := 2*api.MostSize + 8; !d.Step(e); most-- {
		if most <= 0 {
			t.Fatalf("%v: %#x is not done", e.C, number)
		}
	}
	got := d.Done()
	if got.E != api.OK && got.E != api.ErrInvalid || got.Value != 0 || got.Handle != 0 || got.Stamp > e.Now() {
		t.Fatalf("%v: %#x came to %v", e.C, number, got)
	}
	return got
}

// wantHelpEnd asks the same of one who helps.
func wantHelpEnd(t *testing.T, e layout.Env, s int, w uint64, size int) {
	t.Helper()
	h := drop.NewHelp(s, w, size)
	for most := 2*api.MostSize + 1; !h.Step(e); most-- {
		if most <= 0 {
			t.Fatalf("%v: slot %d, %#x, size %d is not done", e.C, s, w, size)
		}
	}
	h.Won()
}

// maimed is arenas of which one or two things may not be.
func maimed(n int) []api.Config {
	l := make([]api.Config, 9)
	for i := range l {
		l[i] = arena(4, 3, 40)
	}
	l[0].Threads = n
	l[1].Slots = n
	l[2].Chunks = n
	l[3].Words = n
	l[4].Gens = n
	l[5].Sparse = n
	l[6].Tries = n
	l[7].Threads, l[7].Chunks = n, n
	l[8].Slots, l[8].Words = n, n
	return l
}

func TestArenasThatMayNotBe(t *testing.T) {
	one, _ := mem.New(1)
	e, x := placed(t, 4, false)
	for _, n := range odd() {
		for _, c := range append(maimed(n), api.Config{}, api.Config{Slots: n}, api.Config{Threads: n, Slots: 3}) {
			for _, number := range numbers() {
				for _, m := range []*mem.Mem{nil, {}, one} {
					v := layout.Env{C: c, M: m, Who: n}
					if d := wantEnd(t, v, number, false); d.E != api.ErrInvalid || d.Stamp != 0 {
						t.Fatalf("%v: %v", c, d)
					}
					wantHelpEnd(t, v, 1, number, 4)
				}
				if layout.Check(c) {
					continue
				}
				wantNoStep(t, e, func() {
					v := layout.Env{C: c, M: e.M, Who: n}
					if d := wantEnd(t, v, number, false); d.E != api.ErrInvalid || d.Stamp != e.Now() {
						t.Fatalf("%v: %v", c, d)
					}
					wantHelpEnd(t, v, 1, x.marked(), 4)
				})
			}
		}
	}
	wantDropped(t, e, x)
}

func TestArenasThatDoNotFitTheirMemory(t *testing.T) {
	for chunks := 1; chunks <= api.MostChunks; chunks += 7 {
		for _, slots := range []int{1, 2, 3, 4, 9, 50, api.MostSlots} {
			for _, words := range []int{17, 21, 40, 256} {
				e, x := placed(t, 4, false)
				e.C = arena(slots, chunks, words)
				for s := range 5 {
					wantEnd(t, e, handle(s, 3), false)
					wantHelpEnd(t, e, s, x.marked(), 16)
				}
			}
		}
	}
}

func TestMemoriesOfEachLength(t *testing.T) {
	whole, x := placed(t, 4, false)
	l := words(whole.M)
	for n := 1; n <= len(l); n++ {
		m, _ := mem.New(n)
		for a := range n {
			m.Store(a, l[a])
		}
		e := layout.Env{C: whole.C, M: m, Who: 1}
		if d := wantEnd(t, e, x.number(), false); d.E == api.OK != (n == len(l)) {
			t.Fatalf("of %d words: %v", n, d)
		}
		wantHelpEnd(t, e, 1, x.marked(), 4)
	}
}

func TestAnyNumberAsAHandle(t *testing.T) {
	e, x := placed(t, 4, true)
	n := uint64(5)
	for range 3000 {
		n = n*6364136223846793005 + 1442695040888963407
		// Shifted, so that small ones come, too.
		if number := n >> (n >> 58); number != x.number() {
			wantNone(t, e, number, n&1 != 0)
		}
	}
	wantDropped(t, e, x)
}

func TestWhatAnyWordsLeadTo(t *testing.T) {
	n := uint64(5)
	for range 300 {
		e := filled(t, arena(4, 4, 20), 1)
		for a := range e.M.Len() {
			n = n*6364136223846793005 + 1442695040888963407
			e.M.Store(a, n>>(n>>58))
		}
		for s := range 4 {
			w := e.M.Peek(slotAt(e.C, s))
			wantHelpEnd(t, e, s, w, int(n>>40%19))
			wantEnd(t, e, handle(s, genOf(w)), s%2 == 0)
			wantEnd(t, e, n>>s, s%2 == 0)
		}
	}
}

func TestObjectsInNoChunk(t *testing.T) {
	// Nobody made them: there is no head to be loaded, and nothing is changed.
	c := arena(4, 3, 40)
	for _, state := range []int{live, moving, dropping} {
		for _, addr := range []int{0, 1, 2, 9, slotAt(c, 1), chunkAt(c, 0), baseAt(c, 0) - 1, baseAt(c, 3), baseAt(c, 3) + 1, api.MostAddress} {
			e := filled(t, c, 0)
			e.M.Store(slotAt(c, 1), slotWord(state, addr, 3, 0))
			wantNone(t, e, handle(1, 3), false)
			wantNone(t, e, handle(1, 3), true)
		}
	}
}

func TestHeadsThatAreNone(t *testing.T) {
	// Of a size that is none no cell is touched, and no word is counted; it ends all the same.
	for _, size := range []int{0, 17, 100, 1<<16 - 1} {
		for _, state := range []int{live, moving, dropping} {
			e := filled(t, arena(4, 3, 40), 0)
			x := object(e.C, 2, false)
			x.state = state
			lay(e, x)
			e.M.Store(x.addr, head(ready, size, 1, 3, false))
			l := words(e.M)
			d := wantEnd(t, e, x.number(), false)
			if d.E == api.OK != (state != dropping) {
				t.Error(size, d)
			}
			if !slices.Equal(words(e.M)[chunkAt(e.C, 0):], l[chunkAt(e.C, 0):]) {
				t.Error("a chunk's words are changed")
			}
			wantNone(t, e, x.number(), false)
		}
	}
}

func TestAnEnvThatIsAnotherOneEachTime(t *testing.T) {
	// Who changes the arena midway is answered all the same; what took effect is told.
	one, _ := mem.New(1)
	for ahead := range 16 {
		for _, state := range []int{live, dropping} {
			for i := range 7 {
				big, x := placed(t, 4, false)
				x.state = state
				lay(big, x)
				small := filled(t, arena(1, 1, 17), 1)
				v := []layout.Env{small, {}, {C: big.C}, {M: big.M}, {C: small.C, M: big.M}, {C: big.C, M: one}, {C: arena(2, 3, 40), M: big.M}}[i]
				d := drop.New(x.number(), false)
				for range ahead {
					d.Step(big)
				}
				gone := stateOf(big.M.Peek(slotAt(big.C, 1))) == free
				for most := 0; !d.Step(v); most++ {
					if most > 30 {
						t.Fatal("not done")
					}
				}
				if state == live && i < 6 && d.Done().E == api.OK != gone {
					t.Errorf("behind %d steps: %v", ahead, d.Done())
				}
			}
		}
	}
}

func TestTheSameStepsTellTheSame(t *testing.T) {
	run := func() ([]api.Done, []uint64) {
		e := filled(t, arena(9, 4, 60), 0)
		for s := range 9 {
			lay(e, thing{slot: s, gen: 1 + s, state: live, size: 1 + s, chunk: s % 4, addr: baseAt(e.C, s%4) + 20*(s/4)})
		}
		l := make([]*drop.Drop, 4)
		var told []api.Done
		for i := range 400 {
			e.Who = i * i % 7 % 4
			if d := l[e.Who]; d == nil || d.Step(e) {
				told = append(told, d.Done())
				s := i / 9 % 9
				l[e.Who] = drop.New(handle(s, 1+s), i%5 == 0)
			}
		}
		return told, words(e.M)
	}
	told, l := run()
	for range 5 {
		if again, k := run(); !slices.Equal(again, told) || !slices.Equal(k, l) {
			t.Error(told, again)
		}
	}
}

func TestStandsOnThoseBelowAlone(t *testing.T) {
	files, err := os.ReadDir(".")
	if err != nil {
		t.Fatal(err)
	}
	below := []string{`"footlocker/api"`, `"footlocker/layout"`, `"footlocker/slot"`, `"footlocker/word"`}
	for _, f := range files {
		name := f.Name()
		if !strings.HasSuffix(name, ".go") || strings.HasSuffix(name, "_test.go") {
			continue
		}
		parsed, err := parser.ParseFile(token.NewFileSet(), name, nil, parser.ImportsOnly)
		if err != nil {
			t.Fatal(err)
		}
		for _, i := range parsed.Imports {
			if !slices.Contains(below, i.Path.Value) {
				t.Errorf("%s imports %s", name, i.Path.Value)
			}
		}
	}
}
