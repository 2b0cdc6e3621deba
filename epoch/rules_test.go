package epoch_test

import (
	"go/parser"
	"go/token"
	"os"
	"slices"
	"strings"
	"testing"

	"footlocker/api"
	"footlocker/epoch"
	"footlocker/layout"
	"footlocker/mem"
)

func TestNilOnes(t *testing.T) {
	var a *epoch.Advance
	var s *epoch.Settle
	e := filled(t, arena(2, 2, 17), 7)
	lay(e, 0, chunk(quiet, 1, 5, 1), 0)
	wantNoStep(t, e, func() {
		for range 3 {
			for _, v := range []layout.Env{e, {}, {C: e.C}, {M: e.M}} {
				if a.Step(v) || a.Went() {
					t.Error("a nil Advance is false")
				}
				if s.Step(v) || s.Freed() {
					t.Error("a nil Settle is false")
				}
			}
		}
	})
}

func TestWhoeverDoesIt(t *testing.T) {
	for _, who := range odd() {
		e := filled(t, arena(2, 2, 17), 0)
		e.Who = who
		wantGone(t, e, 6, []uint64{7, 0})
		wantGone(t, e, 6, []uint64{7, 6})
		wantSettled(t, e, 1, chunk(quiet, 1, 5, 1), 4, 5)
		wantSettled(t, e, 1, chunk(quiet, 1, 5, 1), 4, 6)
	}
}

func TestChunksThatTheArenaHasNot(t *testing.T) {
	for chunks := 1; chunks <= 3; chunks++ {
		e := filled(t, arena(2, chunks, 17), 9)
		// Whatever would be found there is a chunk that may be free.
		for a := pinAt(2); a < e.M.Len(); a++ {
			e.M.Store(a, chunk(quiet, 0, 5, 0))
		}
		for _, i := range odd() {
			s := epoch.NewSettle(i)
			if s == nil {
				t.Fatal("it is nobody")
			}
			if i < 0 || i >= chunks {
				wantAtOnce(t, e, settler{s})
			}
		}
	}
}

func TestNobodyMadeIt(t *testing.T) {
	// One that NewSettle did not make looks at the first chunk.
	e := filled(t, arena(2, 2, 17), 9)
	lay(e, 0, chunk(quiet, 1, 5, 6), 7)
	s := settler{&epoch.Settle{}}
	wantSeen(t, e, s, 0)
	wantFreed(t, e, s, 0, 5, 6)
}

// maimed is arenas of which one or two things are such a number.
func maimed(n int) []api.Config {
	l := make([]api.Config, 10)
	for i := range l {
		l[i] = arena(2, 3, 20)
	}
	l[0].Threads = n
	l[1].Slots = n
	l[2].Chunks = n
	l[3].Words = n
	l[4].Gens = n
	l[5].Sparse = n
	l[6].Tries = n
	l[7].Threads, l[7].Chunks = n, n
	l[8].Slots, l[8].Words = n, n
	l[9].Chunks, l[9].Words = n, n
	return append(l, api.Config{}, api.Config{Threads: n}, api.Config{Chunks: n, Words: n})
}

func TestArenasThatMayNotBe(t *testing.T) {
	one, _ := mem.New(1)
	e := filled(t, arena(2, 3, 20), 9)
	for i := range 3 {
		lay(e, i, chunk(quiet, 1, 5, 1), 0)
	}
	for _, n := range odd() {
		for _, c := range maimed(n) {
			for _, m := range []*mem.Mem{nil, {}, one, e.M} {
				v := layout.Env{C: c, M: m, Who: n}
				if layout.Check(c) && layout.Len(c) <= m.Len() {
					continue
				}
				wantAtOnce(t, v, newGoer())
				for _, i := range []int{-1, 0, 1, 3, n} {
					wantAtOnce(t, v, newSettler(i))
				}
			}
		}
	}
}

func TestMemoriesOfEachLength(t *testing.T) {
	whole := filled(t, arena(2, 2, 17), 9)
	lay(whole, 1, chunk(quiet, 1, 5, 1), 0)
	l := words(whole.M)
	for n := 1; n <= len(l)+3; n++ {
		m, _ := mem.New(n)
		for a := range min(n, len(l)) {
			m.Store(a, l[a])
		}
		e := layout.Env{C: whole.C, M: m, Who: 1}
		if n < len(l) {
			wantAtOnce(t, e, newGoer())
			wantAtOnce(t, e, newSettler(1))
			continue
		}
		wantGone(t, e, 9, none(2))
		wantSettled(t, e, 1, chunk(quiet, 1, 5, 1), 0, 9)
	}
}

func TestAnyWordAsTheChunks(t *testing.T) {
	x := uint64(7)
	freed := 0
	for k := range 3000 {
		e := filled(t, arena(2, 3, 17), 9)
		x = x*6364136223846793005 + 1442695040888963407
		w := x >> (x >> 58)
		if k%3 == 0 {
			w |= quiet
		}
		i := k % 3
		lay(e, i, w, uint64(k%12))
		l := words(e.M)
		if stateOf(w) == quiet && k%12 <= 7 {
			freed++
			for a := range min(usedOf(w), 17) {
				l[baseAt(e.C, i)+a] = 0
			}
			l[liveAt(e.C, i)] = 0
			l[chunkAt(e.C, i)] = min(stampOf(w)+1, mostStamp) << 28
			if !wantEnd(t, e, newSettler(i)) {
				t.Fatalf("%#x is not free", w)
			}
		} else if wantEnd(t, e, newSettler(i)) {
			t.Fatalf("%#x is free", w)
		}
		if !slices.Equal(words(e.M), l) {
			t.Fatalf("%#x: the words are %v, not %v", w, words(e.M), l)
		}
	}
	if freed < 100 {
		t.Error(freed)
	}
}

func TestWhatAnyWordsLeadTo(t *testing.T) {
	// In a memory that nobody laid so it ends, too.
	x := uint64(5)
	for range 500 {
		e := entered(t, arena(2, 4, 20), 1)
		for a := range e.M.Len() {
			x = x*6364136223846793005 + 1442695040888963407
			e.M.Store(a, x>>(x>>58))
		}
		wantEnd(t, e, newGoer())
		for i := range 4 {
			wantEnd(t, e, newSettler(i))
		}
	}
}

func TestAnEnvThatIsAnotherOneEachTime(t *testing.T) {
	// Who changes the arena midway is answered all the same; and what was done is told.
	one, _ := mem.New(1)
	for ahead := range 30 {
		for k := range 8 {
			big, small := filled(t, arena(3, 3, 40), 9), filled(t, arena(1, 1, 17), 9)
			lay(big, 0, chunk(quiet, 1, 20, 1), 0)
			lay(big, 2, chunk(quiet, 1, 20, 1), 0)
			lay(small, 0, chunk(quiet, 1, 17, 3), 0)
			v := []layout.Env{{}, {C: big.C}, {M: big.M}, {C: big.C, M: one}, small, {C: small.C, M: big.M}, {C: arena(8, 3, 40), M: big.M}, {C: arena(1, 64, 20), M: big.M}}[k]
			for _, d := range []doer{newGoer(), newSettler(2), newSettler(0)} {
				over := false
				for range ahead {
					over = d.Step(big)
				}
				came := d.came()
				if came != over {
					t.Fatalf("behind %d steps it came to %v", ahead, came)
				}
				// In the first four of them nothing can be done.
				if got := wantEnd(t, v, d); came && !got || k < 4 && got != came {
					t.Fatalf("behind %d steps it came to %v, and then to %v", ahead, came, got)
				}
			}
		}
	}
}

func TestAnArenaThatShrinksWhileItsWordsAreLaid(t *testing.T) {
	// Behind the end of the lesser chunk nothing is laid.
	e := filled(t, arena(3, 2, 40), 9)
	lay(e, 0, chunk(quiet, 1, 30, 1), 0)
	s := newSettler(0)
	wantSeen(t, e, s, 0)
	for k := range 20 {
		wantOn(t, e, s, touch{baseAt(e.C, 0) + k, 0})
	}
	e.C.Words = 17
	wantFreed(t, e, s, 0, 0, 1)
	// Nor is a pin asked that is none.
	e = filled(t, arena(3, 2, 17), 9)
	g := newGoer()
	wantLook(t, e, g, epochAt)
	wantLook(t, e, g, pinAt(0))
	wantLook(t, e, g, pinAt(1))
	e.C.Threads = 1
	wantStep(t, e, g, touch{epochAt, 10}, true, true)
}

func TestTheSameStepsTellTheSame(t *testing.T) {
	run := func() ([]int, []uint64) {
		c := newCrowd(t, 3, 3)
		var told []int
		for i := range 900 {
			c.play(i * i % 101 % 10)
			told = append(told, c.went, c.freed)
		}
		return told, words(c.e.M)
	}
	told, l := run()
	if told[len(told)-1] == 0 || told[len(told)-2] == 0 {
		t.Error(told)
	}
	for range 5 {
		if again, k := run(); !slices.Equal(again, told) || !slices.Equal(k, l) {
			t.Error(told, again)
		}
	}
}

func TestStandsOnThoseBelowAlone(t *testing.T) {
	files, err := os.ReadDir(".")
	if err != nil {
		t.Fatal(err)
	}
	below := []string{`"footlocker/api"`, `"footlocker/layout"`, `"footlocker/word"`}
	for _, f := range files {
		name := f.Name()
		if !strings.HasSuffix(name, ".go") || strings.HasSuffix(name, "_test.go") {
			continue
		}
		parsed, err := parser.ParseFile(token.NewFileSet(), name, nil, parser.ImportsOnly)
		if err != nil {
			t.Fatal(err)
		}
		for _, i := range parsed.Imports {
			if !slices.Contains(below, i.Path.Value) {
				t.Errorf("%s imports %s", name, i.Path.Value)
			}
		}
	}
}
