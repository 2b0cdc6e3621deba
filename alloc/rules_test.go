package alloc_test

import (
	"go/parser"
	"go/token"
	"math"
	"os"
	"slices"
	"strings"
	"testing"

	"footlocker/alloc"
	"footlocker/api"
	"footlocker/layout"
	"footlocker/mem"
)

// odd is numbers of all kinds, most of which may not be.
func odd() []int {
	return []int{math.MinInt, math.MinInt + 1, -1 << 32, -65, -6, -5, -4, -3, -2, -1, 0, 1, 2, 3, 4, 9, 16, 17, 18, 63, 64, 65, 256, 257, 1 << 16, 1<<16 + 2, 1 << 20, 1 << 32, 1<<32 + 2, math.MaxInt/2 - 4, math.MaxInt / 2, math.MaxInt - 7, math.MaxInt - 1, math.MaxInt}
}

func TestWhoeverDoesIt(t *testing.T) {
	// The compactor, or one that is no thread, does as all do.
	for _, who := range odd() {
		e := filled(t, arena(3, 2, 20), who)
		wantMade(t, e, 8, false)
		wantMade(t, e, 16, true)
		wantNoRoom(t, e, 4)
	}
}

// wantEnd asks that one whom nobody disturbs is done behind as many steps as there are, at most, wherever it works, and what it may come to.
func wantEnd(t *testing.T, e layout.Env, size int) api.Done {
	t.Helper()
	a := alloc.New(size, true)
	// Each chunk can be taken once, and behind that all begins anew; three steps take a slot; a slot whose link stands where another word is may have to be given twice.
	chunks := min(max(e.C.Chunks, 0), api.MostChunks)
	for most := 20 + chunks*(2*chunks+8); !a.Step(e); most-- {
		if most < 0 {
			t.Fatalf("%v: size %d is not done", e.C, size)
		}
	}
	d := a.Done()
	if !slices.Contains([]api.Errno{api.OK, api.ErrSize, api.ErrHandles, api.ErrMemory}, d.E) || d.Value != 0 || d.E != api.OK && d.Handle != 0 {
		t.Fatalf("%v: size %d came to %v", e.C, size, d)
	}
	return d
}

// maimed is arenas of which one or two things may not be.
func maimed(n int) []api.Config {
	l := make([]api.Config, 9)
	for i := range l {
		l[i] = arena(3, 3, 20)
	}
	l[0].Threads = n
	l[1].Slots = n
	l[2].Chunks = n
	l[3].Words = n
	l[4].Gens = n
	l[5].Sparse = n
	l[6].Tries = n
	l[7].Threads, l[7].Chunks = n, n
	l[8].Slots, l[8].Words = n, n
	return l
}

func TestArenasThatMayNotBe(t *testing.T) {
	one, _ := mem.New(1)
	for _, n := range odd() {
		for _, c := range append(maimed(n), api.Config{}, api.Config{Slots: n}, api.Config{Threads: n, Slots: 3}) {
			for _, size := range []int{-1, 0, 1, 3, 8, 16, 17} {
				for _, m := range []*mem.Mem{nil, {}, one} {
					d := wantEnd(t, layout.Env{C: c, M: m, Who: n}, size)
					// Where nothing is, no slot is free.
					if size >= 1 && size <= 16 && d.E != api.ErrHandles {
						t.Fatalf("%v: %v", c, d)
					}
				}
				e := filled(t, arena(3, 3, 20), 1)
				d := wantEnd(t, layout.Env{C: c, M: e.M, Who: n}, size)
				if !layout.Check(c) && d.E == api.OK {
					t.Fatalf("%v: an object was made in an arena that may not be: %v", c, d)
				}
			}
		}
	}
}

func TestASlotIsNotLostWhereTheArenaMayNotBe(t *testing.T) {
	for _, bad := range []func(c *api.Config){
		func(c *api.Config) { c.Words = 16 },
		func(c *api.Config) { c.Words = api.MostChunk + 1 },
		func(c *api.Config) { c.Gens = 0 },
		func(c *api.Config) { c.Sparse = 1001 },
		func(c *api.Config) { c.Tries = 0 },
		func(c *api.Config) { c.Chunks = 0 },
	} {
		e := filled(t, arena(3, 3, 20), 1)
		bad(&e.C)
		for range 5 {
			if d := wantEnd(t, e, 4); d.E != api.ErrMemory || d.Stamp != e.Now() {
				t.Fatalf("%v: %v", e.C, d)
			}
			wantFree(t, e, 0, 1, 2)
		}
	}
}

func TestArenasThatDoNotFitTheirMemory(t *testing.T) {
	for chunks := 1; chunks <= api.MostChunks; chunks += 7 {
		for _, slots := range []int{1, 2, 3, 4, 9, 50, api.MostSlots} {
			for _, words := range []int{17, 21, 40, 256} {
				for size := 1; size <= api.MostSize; size += 3 {
					e := filled(t, arena(3, 3, 20), 1)
					e.C = arena(slots, chunks, words)
					wantEnd(t, e, size)
				}
			}
		}
	}
}

func TestMemoriesOfEachLength(t *testing.T) {
	c := arena(3, 3, 20)
	whole := words(entered(t, c, 1).M)
	for n := 1; n <= len(whole); n++ {
		m, _ := mem.New(n)
		for a := range n {
			m.Store(a, whole[a])
		}
		for size := 1; size <= api.MostSize; size++ {
			wantEnd(t, layout.Env{C: c, M: m, Who: 1}, size)
		}
	}
}

func TestWhatAnyWordsLeadTo(t *testing.T) {
	x := uint64(5)
	for range 300 {
		e := filled(t, arena(4, 4, 20), 1)
		for a := range e.M.Len() {
			x = x*6364136223846793005 + 1442695040888963407
			e.M.Store(a, x>>(x>>58))
		}
		for size := range 18 {
			wantEnd(t, e, size)
		}
	}
}

func TestAnEnvThatIsAnotherOneEachTime(t *testing.T) {
	// Who changes the arena midway is answered all the same.
	for ahead := range 18 {
		for size := 1; size <= api.MostSize; size += 2 {
			big, small := filled(t, arena(9, 5, 40), 1), filled(t, arena(1, 1, 17), 1)
			for _, v := range []layout.Env{small, {}, {C: big.C}, {M: big.M}, {C: small.C, M: big.M}} {
				a := alloc.New(size, false)
				for range ahead {
					a.Step(big)
				}
				for most := 0; !a.Step(v); most++ {
					a.Done()
					if most > 30 {
						t.Fatal("not done")
					}
				}
			}
		}
	}
}

func TestTheSameStepsTellTheSame(t *testing.T) {
	run := func() ([]api.Done, []uint64) {
		e := filled(t, arena(9, 4, 40), 0)
		l := []*alloc.Alloc{alloc.New(1, false), alloc.New(3, true), alloc.New(4, true), alloc.New(16, false)}
		var told []api.Done
		for i := range 300 {
			e.Who = i * i % 7 % 4
			if l[e.Who].Step(e) {
				told = append(told, l[e.Who].Done())
				l[e.Who] = alloc.New((e.Who+i)%18, i%2 == 0)
			}
		}
		return told, words(e.M)
	}
	told, l := run()
	for range 5 {
		if again, k := run(); !slices.Equal(again, told) || !slices.Equal(k, l) {
			t.Error(told, again)
		}
	}
}

func TestStandsOnThoseBelowAlone(t *testing.T) {
	files, err := os.ReadDir(".")
	if err != nil {
		t.Fatal(err)
	}
	below := []string{`"footlocker/api"`, `"footlocker/layout"`, `"footlocker/place"`, `"footlocker/slot"`, `"footlocker/word"`}
	for _, f := range files {
		name := f.Name()
		if !strings.HasSuffix(name, ".go") || strings.HasSuffix(name, "_test.go") {
			continue
		}
		parsed, err := parser.ParseFile(token.NewFileSet(), name, nil, parser.ImportsOnly)
		if err != nil {
			t.Fatal(err)
		}
		for _, i := range parsed.Imports {
			if !slices.Contains(below, i.Path.Value) {
				t.Errorf("%s imports %s", name, i.Path.Value)
			}
		}
	}
}
