package shelf_test

import (
	"go/parser"
	"go/token"
	"math"
	"os"
	"slices"
	"strings"
	"testing"

	"footlocker/api"
	"footlocker/layout"
	"footlocker/mem"
	"footlocker/shelf"
)

// odd is numbers of all kinds, most of which may not be.
func odd() []int {
	return []int{math.MinInt, math.MinInt + 1, -1 << 32, -65, -6, -5, -4, -3, -2, -1, 0, 1, 2, 3, 4, 5, 7, 8, 9, 16, 17, 18, 63, 64, 65, 256, 257, 1 << 16, 1<<16 + 2, 1 << 20, 1<<32 - 1, 1 << 32, 1<<32 + 2, 1 << 40, math.MaxInt / 2, math.MaxInt - 7, math.MaxInt - 1, math.MaxInt}
}

// maimed is arenas of which one or two things are such a number.
func maimed(n int) []api.Config {
	l := make([]api.Config, 10)
	for i := range l {
		l[i] = arena(20, 4, 60)
	}
	l[0].Threads = n
	l[1].Slots = n
	l[2].Chunks = n
	l[3].Words = n
	l[4].Gens = n
	l[5].Sparse = n
	l[6].Tries = n
	l[7].Threads, l[7].Chunks = n, n
	l[8].Slots, l[8].Words = n, n
	l[9].Chunks, l[9].Words = n, n
	return append(l, api.Config{}, api.Config{Threads: n}, api.Config{Chunks: n, Words: n})
}

// copied is a memory of the same words, or of so many of them.
func copied(l []uint64, n int) *mem.Mem {
	m, _ := mem.New(n)
	for a := range min(n, len(l)) {
		m.Store(a, l[a])
	}
	return m
}

// wantThatOfTheActs asks that a shelf comes to what the acts come to that make its nodes, by the same steps.
func wantThatOfTheActs(t *testing.T, e, twin layout.Env, lists int) api.Errno {
	t.Helper()
	s, err := shelf.Fresh(e, lists)
	l, want := nodes(t, twin, lists)
	if err != want || (s == nil) != (err != api.OK) || !slices.Equal(s.Heads(), l) {
		t.Fatalf("%v, %d lists: %v, %v, not %v, %v", e.C, lists, s.Heads(), err, l, want)
	}
	if e.M != nil {
		wantSame(t, e, twin)
	}
	if err != api.OK && (s.Lists() != 0 || err != api.ErrHandles && err != api.ErrMemory) {
		t.Fatalf("%v, %d lists: %v", e.C, lists, err)
	}
	return err
}

func TestArenasThatMayNotBe(t *testing.T) {
	t.Parallel()
	for _, n := range odd() {
		for _, c := range maimed(n) {
			for _, who := range []int{0, 2, n} {
				l := words(entered(t, arena(20, 4, 60), 0).M)
				if got := wantThatOfTheActs(t, layout.Env{C: c, M: copied(l, len(l)), Who: who}, layout.Env{C: c, M: copied(l, len(l)), Who: who}, 3); !layout.Check(c) && got == api.OK {
					t.Fatalf("%v may not be", c)
				}
				if got := wantThatOfTheActs(t, layout.Env{C: c, M: copied(nil, 1), Who: who}, layout.Env{C: c, M: copied(nil, 1), Who: who}, 3); got == api.OK {
					t.Fatalf("%v in one word", c)
				}
			}
		}
	}
}

func TestNoMemory(t *testing.T) {
	for _, n := range odd() {
		for _, c := range append(maimed(n), arena(20, 4, 60)) {
			for _, m := range []*mem.Mem{nil, {}} {
				for lists := 1; lists <= mostLists; lists++ {
					e := layout.Env{C: c, M: m, Who: n}
					if err := wantThatOfTheActs(t, e, e, lists); err == api.OK {
						t.Fatalf("%v, %d lists: nothing can be made", c, lists)
					}
				}
			}
		}
	}
}

func TestMemoriesOfEachLength(t *testing.T) {
	t.Parallel()
	// Also one that is too short for its arena: no panic, and what the acts tell.
	c := arena(9, 3, 20)
	l := words(entered(t, c, 0).M)
	for n := 1; n <= len(l)+3; n++ {
		e, twin := layout.Env{C: c, M: copied(l, n), Who: 1}, layout.Env{C: c, M: copied(l, n), Who: 1}
		if err := wantThatOfTheActs(t, e, twin, mostLists); n >= len(l) && err != api.OK || n <= layout.Chunk(c, 0) && err == api.OK {
			t.Fatalf("%d words: %v", n, err)
		}
		if e, twin = (layout.Env{C: c, M: copied(nil, n)}), (layout.Env{C: c, M: copied(nil, n)}); wantThatOfTheActs(t, e, twin, mostLists) != api.ErrHandles {
			t.Fatalf("%d words, all of them 0", n)
		}
	}
}

func TestAnyWords(t *testing.T) {
	t.Parallel()
	// In a memory that nobody laid so it ends, and does what the acts do.
	x := uint64(5)
	for n := range 2000 {
		c := arena(1+n%19, 1+n%7, 17+n%40)
		l := make([]uint64, layout.Len(c))
		for a := range l {
			x = x*6364136223846793005 + 1442695040888963407
			l[a] = x >> (x >> 58)
		}
		// Half of them have a free slot, whatever it is.
		if n%2 == 0 {
			l[layout.Top()] = 1 + x>>40%uint64(c.Slots)
		}
		e, twin := layout.Env{C: c, M: copied(l, len(l)), Who: n % 5}, layout.Env{C: c, M: copied(l, len(l)), Who: n % 5}
		wantThatOfTheActs(t, e, twin, 1+n%mostLists)
	}
}

func TestAShelfKeepsNoArena(t *testing.T) {
	// What is asked of it is done where Step says, by whoever is said there.
	e, twin := entered(t, arena(20, 4, 60), 0), entered(t, arena(20, 4, 60), 0)
	s := made(t, e, 4)
	made(t, twin, 4)
	l := words(e.M)
	for key := range 9 {
		if d := run(t, by(twin, 2), asks(t, s, add, key)); d.Value != 1 || twin.M.Last().Who != 2 {
			t.Fatalf("key %d came to %+v, by %v", key, d, twin.M.Last())
		}
	}
	if !slices.Equal(words(e.M), l) {
		t.Fatal("the words are others")
	}
}

func TestTheSameCallsTellTheSame(t *testing.T) {
	play := func() ([]api.Done, []uint64, []uint64) {
		a := newAlone(t, arena(20, 6, 60), 5)
		var l []api.Done
		x := uint64(4)
		for range 200 {
			var kind, key int
			kind, x = mixed(x, 3)
			key, x = mixed(x, 30)
			l = append(l, run(t, a.e, asks(t, a.s, 1+kind, key)))
		}
		return l, a.s.Heads(), words(a.e.M)
	}
	l, h, w := play()
	for range 4 {
		if k, g, v := play(); !slices.Equal(k, l) || !slices.Equal(g, h) || !slices.Equal(v, w) {
			t.Error("it is told otherwise")
		}
	}
}

func TestStandsOnThoseBelowAlone(t *testing.T) {
	files, err := os.ReadDir(".")
	if err != nil {
		t.Fatal(err)
	}
	below := []string{`"footlocker/act"`, `"footlocker/api"`, `"footlocker/layout"`, `"footlocker/list"`, `"slices"`}
	for _, f := range files {
		name := f.Name()
		if !strings.HasSuffix(name, ".go") || strings.HasSuffix(name, "_test.go") {
			continue
		}
		parsed, err := parser.ParseFile(token.NewFileSet(), name, nil, parser.ImportsOnly)
		if err != nil {
			t.Fatal(err)
		}
		for _, i := range parsed.Imports {
			if !slices.Contains(below, i.Path.Value) {
				t.Errorf("%s imports %s", name, i.Path.Value)
			}
		}
	}
}
