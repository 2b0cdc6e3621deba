package place_test

import (
	"go/parser"
	"go/token"
	"math"
	"os"
	"slices"
	"strings"
	"testing"

	"footlocker/api"
	"footlocker/layout"
	"footlocker/mem"
	"footlocker/place"
)

// odd is numbers of all kinds, most of which may not be.
func odd() []int {
	return []int{math.MinInt, math.MinInt + 1, -1 << 32, -65, -6, -5, -4, -3, -2, -1, 0, 1, 2, 3, 4, 5, 9, 16, 17, 62, 63, 64, 65, 256, 257, 1 << 20, 1 << 32, math.MaxInt/2 - 4, math.MaxInt / 2, math.MaxInt - 7, math.MaxInt - 1, math.MaxInt}
}

// wantAtOnce asks that somebody is done at once, without words and without a step.
func wantAtOnce(t *testing.T, e layout.Env, p *place.Place) {
	t.Helper()
	now, last, l := e.Now(), e.M.Last(), words(e.M)
	for range 5 {
		if !p.Step(e) {
			t.Fatalf("%v: there is nothing to do", e.C)
		}
		wantSpot(t, p, api.Spot{}, false)
	}
	if e.Now() != now || e.M.Last() != last || !slices.Equal(words(e.M), l) {
		t.Fatalf("%v: touched was %v", e.C, e.M.Last())
	}
}

func TestClassesThatAreNone(t *testing.T) {
	e := filled(t, arena(3, 20), 1)
	for _, class := range odd() {
		if class >= 0 && class < api.Classes {
			continue
		}
		p := place.New(class)
		if p == nil {
			t.Fatal("it is nobody")
		}
		wantSpot(t, p, api.Spot{}, false)
		wantAtOnce(t, e, p)
	}
}

func TestWhoeverDoesIt(t *testing.T) {
	// The compactor, or one that is no thread, does as all do.
	for _, who := range odd() {
		e := filled(t, arena(2, 20), who)
		wantOpened(t, e, 2, -1, 0)
		wantGot(t, e, 2, 0)
		wantOpened(t, e, 2, 0, 1)
		wantNone(t, e, 1, -1)
	}
}

// maimed is arenas of which one or two things may not be.
func maimed(n int) []api.Config {
	l := make([]api.Config, 9)
	for i := range l {
		l[i] = arena(3, 20)
	}
	l[0].Threads = n
	l[1].Slots = n
	l[2].Chunks = n
	l[3].Words = n
	l[4].Gens = n
	l[5].Sparse = n
	l[6].Tries = n
	l[7].Threads, l[7].Chunks = n, n
	l[8].Slots, l[8].Words = n, n
	return l
}

func TestArenasThatMayNotBe(t *testing.T) {
	one, _ := mem.New(1)
	e := filled(t, arena(3, 20), 1)
	for _, m := range []*mem.Mem{nil, {}, one, e.M} {
		for _, n := range odd() {
			for _, c := range append(maimed(n), api.Config{}, api.Config{Chunks: n}) {
				v := layout.Env{C: c, M: m, Who: n}
				for class := -1; class <= 4; class++ {
					if layout.Check(c) && m == e.M {
						wantEnd(t, v, class)
						continue
					}
					if layout.Check(c) && m != nil {
						wantNowhere(t, v, class)
						continue
					}
					wantAtOnce(t, v, place.New(class))
				}
			}
		}
	}
}

// wantEnd asks that one whom nobody disturbs is done behind as many steps as there are, at most, wherever it works.
func wantEnd(t *testing.T, e layout.Env, class int) {
	t.Helper()
	p := place.New(class)
	// Each chunk can be taken once, and behind that all begins anew.
	for most := e.C.Chunks * (2*e.C.Chunks + 8); !p.Step(e); most-- {
		if most < 0 {
			t.Fatalf("%v: class %d is not done", e.C, class)
		}
	}
	if s, is := p.Spot(); !is && s != (api.Spot{}) {
		t.Fatalf("%v: no words, and %v", e.C, s)
	}
}

// wantNowhere asks that nothing is got where the arena's words are not there.
func wantNowhere(t *testing.T, e layout.Env, class int) {
	t.Helper()
	p := place.New(class)
	for most := 2*e.C.Chunks + 2; !p.Step(e); most-- {
		if most < 0 {
			t.Fatalf("%v: class %d is not done", e.C, class)
		}
	}
	wantSpot(t, p, api.Spot{}, false)
}

func TestArenasThatDoNotFitTheirMemory(t *testing.T) {
	for chunks := 1; chunks <= api.MostChunks; chunks += 7 {
		for words := api.LeastChunk; words <= api.MostChunk; words += 37 {
			for class := range rooms {
				e := filled(t, arena(3, 20), 1)
				e.C = arena(chunks, words)
				wantEnd(t, e, class)
			}
		}
	}
}

func TestMemoriesOfEachLength(t *testing.T) {
	c := arena(3, 20)
	for n := 1; n <= layout.Len(c); n++ {
		m, _ := mem.New(n)
		for class := range rooms {
			e := layout.Env{C: c, M: m, Who: 1}
			wantEnd(t, e, class)
		}
	}
}

func TestOpenChunksThatTheArenaHasNot(t *testing.T) {
	for _, w := range []uint64{4, 5, 64, 65, 1 << 20, 1 << 32, 1<<63 - 1, 1 << 63, math.MaxUint64 - 1, math.MaxUint64} {
		e := filled(t, arena(3, 20), 1)
		e.M.Store(openAt(2), w)
		p := place.New(2)
		wantOn(t, e, p, openAt(2), w)
		wantLook(t, e, p, 0)
		wantTake(t, e, p, 2, 0)
		wantOn(t, e, p, openAt(2), 1)
		wantSeen(t, e, p, 2, 0)
		wantGrown(t, e, p, 2, 0)
	}
}

func TestWhatAnyWordsLeadTo(t *testing.T) {
	x := uint64(5)
	for range 300 {
		e := filled(t, arena(4, 20), 1)
		for a := range e.M.Len() {
			x = x*6364136223846793005 + 1442695040888963407
			e.M.Store(a, x>>(x>>58))
		}
		for class := range rooms {
			wantEnd(t, e, class)
		}
	}
}

func TestAnEnvThatIsAnotherOneEachTime(t *testing.T) {
	// Who changes the arena midway is answered all the same.
	big, small := filled(t, arena(9, 40), 1), filled(t, arena(1, 17), 1)
	for ahead := range 12 {
		for class := range rooms {
			p := place.New(class)
			for range ahead {
				p.Step(big)
			}
			for range 9 {
				p.Step(small)
				p.Spot()
			}
			for most := 0; !p.Step(small); most++ {
				if most > 9 {
					t.Fatal("not done")
				}
			}
		}
	}
	p := place.New(0)
	p.Step(big)
	wantAtOnce(t, layout.Env{C: big.C}, p)
	// It was told as done, and is.
	wantAtOnce(t, big, p)
}

func TestTheSameStepsTellTheSame(t *testing.T) {
	run := func() ([]api.Spot, []uint64) {
		e := filled(t, arena(5, 40), 0)
		l := []*place.Place{place.New(0), place.New(1), place.New(1), place.New(3)}
		var told []api.Spot
		for i := range 200 {
			e.Who = i * i % 7 % 4
			if l[e.Who].Step(e) {
				s, _ := l[e.Who].Spot()
				told = append(told, s)
				l[e.Who] = place.New((e.Who + i) % 4)
			}
		}
		return told, words(e.M)
	}
	told, l := run()
	for range 5 {
		if again, k := run(); !slices.Equal(again, told) || !slices.Equal(k, l) {
			t.Error(told, again)
		}
	}
}

func TestStandsOnApiLayoutAndWordAlone(t *testing.T) {
	files, err := os.ReadDir(".")
	if err != nil {
		t.Fatal(err)
	}
	for _, f := range files {
		name := f.Name()
		if !strings.HasSuffix(name, ".go") || strings.HasSuffix(name, "_test.go") {
			continue
		}
		parsed, err := parser.ParseFile(token.NewFileSet(), name, nil, parser.ImportsOnly)
		if err != nil {
			t.Fatal(err)
		}
		for _, i := range parsed.Imports {
			if !slices.Contains([]string{`"footlocker/api"`, `"footlocker/layout"`, `"footlocker/word"`}, i.Path.Value) {
				t.Errorf("%s imports %s", name, i.Path.Value)
			}
		}
	}
}
