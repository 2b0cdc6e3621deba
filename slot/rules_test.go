package slot_test

import (
	"go/parser"
	"go/token"
	"math"
	"os"
	"slices"
	"strings"
	"testing"

	"footlocker/api"
	"footlocker/layout"
	"footlocker/mem"
	"footlocker/slot"
)

// odd is numbers of all kinds, most of which may not be.
func odd() []int {
	return []int{math.MinInt, math.MinInt + 1, -1 << 32, -65, -6, -5, -4, -3, -2, -1, 0, 1, 2, 5, 9, 65, api.MostSlots - 1, api.MostSlots, api.MostSlots + 1, 1 << 20, 1 << 32, math.MaxInt/2 - 4, math.MaxInt / 2, math.MaxInt - 7, math.MaxInt - 1, math.MaxInt}
}

func TestSlotsThatTheArenaHasNot(t *testing.T) {
	for _, slots := range []int{1, 2, 5} {
		e := filled(t, slots, 1)
		now, last, l := e.Now(), e.M.Last(), words(e.M)
		for _, s := range odd() {
			if s >= 0 && s < slots {
				continue
			}
			g := slot.NewGive(s)
			for range 5 {
				if !g.Step(e) {
					t.Errorf("slot %d of %d: there is nothing to give", s, slots)
				}
			}
			if e.Now() != now || e.M.Last() != last || !slices.Equal(words(e.M), l) {
				t.Fatalf("slot %d of %d: touched was %v", s, slots, e.M.Last())
			}
		}
	}
}

func TestWhoeverDoesIt(t *testing.T) {
	// The compactor, or one that is no thread, does as all do.
	for _, who := range odd() {
		e := filled(t, 3, who)
		wantTaken(t, e, 0)
		wantTaken(t, e, 1)
		wantGiven(t, e, 0)
		wantFree(t, e, 0, 2)
	}
}

// wantEnd asks that one whom nobody disturbs takes, or finds none, in three steps at most, wherever it works.
func wantEnd(t *testing.T, e layout.Env) {
	t.Helper()
	k := &slot.Take{}
	n := 1
	for ; n < 10 && !k.Step(e); n++ {
	}
	if n > 3 {
		t.Fatalf("%v: not done in three steps", e)
	}
	if s, is := k.Slot(); !is && s != 0 {
		t.Fatalf("%v: none, and slot %d", e, s)
	}
}

func TestArenasThatMayNotBe(t *testing.T) {
	one, _ := mem.New(1)
	for _, m := range []*mem.Mem{nil, {}, one} {
		for _, n := range odd() {
			for _, c := range []api.Config{arena(n), {Slots: n}, {Threads: n, Slots: 4}, {Threads: n, Slots: n}} {
				e := layout.Env{C: c, M: m, Who: n}
				wantEnd(t, e)
				for _, s := range odd() {
					g := slot.NewGive(s)
					for range 7 {
						g.Step(e)
					}
				}
			}
		}
	}
}

func TestArenasThatDoNotFitTheirMemory(t *testing.T) {
	for _, n := range odd() {
		for _, c := range []api.Config{arena(n), {Slots: n}, {Threads: n, Slots: 4}, {Threads: n, Slots: n}} {
			e := filled(t, 3, n)
			e.C = c
			wantEnd(t, e)
			for _, s := range odd() {
				g := slot.NewGive(s)
				for range 7 {
					g.Step(e)
				}
			}
		}
	}
}

func TestWithoutMemory(t *testing.T) {
	// One word is the epoch's: where the first free slot would stand there is none.
	one, _ := mem.New(1)
	for _, e := range []layout.Env{{}, {C: arena(3)}, {C: arena(3), Who: 2}, {C: arena(3), M: &mem.Mem{}}, {C: arena(3), M: one}} {
		k, g := &slot.Take{}, slot.NewGive(1)
		for range 3 {
			if !k.Step(e) || !g.Step(e) {
				t.Error("there is nothing to take, and nothing to give")
			}
			wantSlot(t, k, 0, false)
		}
	}
}

func TestFirstOnesThatTheArenaHasNot(t *testing.T) {
	for _, w := range []uint64{4, 5, 1 << 16, 1<<17 - 1, top(3, 9), top(api.MostSlots-1, api.MostStamp), math.MaxUint64} {
		e := filled(t, 3, 1)
		e.M.Store(topAt, w)
		k := &slot.Take{}
		wantStep(t, e, k.Step, touch{topAt, w}, true)
		wantSlot(t, k, 0, false)
	}
}

func TestWhatAnyWordsLeadTo(t *testing.T) {
	x := uint64(5)
	for range 300 {
		e := filled(t, 4, 1)
		for a := range e.M.Len() {
			x = x*6364136223846793005 + 1442695040888963407
			e.M.Store(a, x>>(x>>58))
		}
		wantEnd(t, e)
		for s := range 4 {
			gives(t, e, s)
		}
	}
}

func TestAnEnvThatIsAnotherOneEachTime(t *testing.T) {
	// Who changes the arena midway is not followed out of it.
	e := filled(t, 4, 1)
	k, g := &slot.Take{}, slot.NewGive(3)
	for i := range 40 {
		e.C.Slots = i % 5
		e.C.Threads = i % 4
		k.Step(e)
		g.Step(e)
		k.Slot()
	}
	small := filled(t, 2, 1)
	late := slot.NewGive(3)
	late.Step(e)
	now := small.Now()
	for range 3 {
		if !late.Step(small) {
			t.Error("there is no such slot here")
		}
	}
	if small.Now() != now {
		t.Error("touched was", small.M.Last())
	}
}

func TestTheSameStepsTellTheSame(t *testing.T) {
	run := func() ([]int, []uint64) {
		e := filled(t, 3, 0)
		takes := make([]slot.Take, 4)
		var told []int
		for i := range 60 {
			e.Who = i * i % 4
			takes[e.Who].Step(e)
			s, is := takes[e.Who].Slot()
			told = append(told, s)
			if is {
				takes[e.Who] = slot.Take{}
				gives(t, e, s)
			}
		}
		return told, words(e.M)
	}
	told, l := run()
	for range 5 {
		if again, k := run(); !slices.Equal(again, told) || !slices.Equal(k, l) {
			t.Error(told, again)
		}
	}
}

func TestStandsOnLayoutAndWordAlone(t *testing.T) {
	files, err := os.ReadDir(".")
	if err != nil {
		t.Fatal(err)
	}
	for _, f := range files {
		name := f.Name()
		if !strings.HasSuffix(name, ".go") || strings.HasSuffix(name, "_test.go") {
			continue
		}
		parsed, err := parser.ParseFile(token.NewFileSet(), name, nil, parser.ImportsOnly)
		if err != nil {
			t.Fatal(err)
		}
		for _, i := range parsed.Imports {
			if !slices.Contains([]string{`"footlocker/layout"`, `"footlocker/word"`}, i.Path.Value) {
				t.Errorf("%s imports %s", name, i.Path.Value)
			}
		}
	}
}
