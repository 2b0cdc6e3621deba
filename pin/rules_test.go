package pin_test

import (
	"go/parser"
	"go/token"
	"math"
	"os"
	"slices"
	"strings"
	"testing"

	"footlocker/api"
	"footlocker/layout"
	"footlocker/mem"
	"footlocker/pin"
)

// odd is numbers of all kinds, most of which may not be.
func odd() []int {
	return []int{math.MinInt, math.MinInt + 1, -1 << 32, -65, -6, -2, -1, 0, 1, 2, 7, 8, 9, 65, 1 << 20, 1 << 32, math.MaxInt - 7, math.MaxInt - 1, math.MaxInt}
}

// wantEnd asks that a thread whom nobody disturbs is done in three steps at most, wherever it works.
func wantEnd(t *testing.T, e layout.Env) {
	t.Helper()
	p := &pin.In{}
	n := 1
	for ; n < 10 && !p.Step(e); n++ {
	}
	if n > 3 {
		t.Fatalf("by %d of %d threads: not done in three steps", e.Who, e.C.Threads)
	}
	if !(pin.Out{}).Step(e) {
		t.Fatalf("by %d of %d threads: Out is done at once", e.Who, e.C.Threads)
	}
}

func TestArenasThatMayNotBe(t *testing.T) {
	small, _ := mem.New(3)
	middle, _ := mem.New(8)
	for _, m := range []*mem.Mem{nil, {}, small, middle} {
		for _, threads := range odd() {
			for _, who := range odd() {
				wantEnd(t, layout.Env{C: arena(threads), M: m, Who: who})
				wantEnd(t, layout.Env{C: api.Config{Threads: threads}, M: m, Who: who})
			}
		}
	}
}

func TestWithoutMemory(t *testing.T) {
	p := &pin.In{}
	e := layout.Env{C: arena(2), Who: 1}
	for i, done := range []bool{false, false, true, true} {
		if p.Step(e) != done {
			t.Errorf("step %d: done is not %v", i+1, done)
		}
	}
	wantEnd(t, layout.Env{})
}

func TestAMemoryThatHasNoPins(t *testing.T) {
	m, _ := mem.New(layout.Pin(0))
	e := layout.Env{C: arena(2), M: m, Who: 1}
	wantEnd(t, e)
	if l := words(m); slices.Max(l) != 0 {
		t.Error("there is no pin to lay", l)
	}
	// The epoch is there, and was loaded twice.
	if m.Steps() != 2 || m.Last() != (api.Touch{Addr: layout.Epoch(), Who: 1}) {
		t.Error(m.Steps(), m.Last())
	}
}

func TestTheSameStepsTellTheSame(t *testing.T) {
	run := func() ([]bool, []uint64) {
		e := filled(t, 3, 0, 11)
		ins := []pin.In{{}, {}, {}}
		var told []bool
		for i := range 60 {
			e.Who = i * i % 3
			told = append(told, ins[e.Who].Step(e))
			if i%4 == 1 {
				e.M.Add(layout.Epoch(), 1)
			}
		}
		return told, words(e.M)
	}
	told, l := run()
	for range 5 {
		if again, k := run(); !slices.Equal(again, told) || !slices.Equal(k, l) {
			t.Error(told, again)
		}
	}
}

func TestStandsOnLayoutAlone(t *testing.T) {
	files, err := os.ReadDir(".")
	if err != nil {
		t.Fatal(err)
	}
	for _, f := range files {
		name := f.Name()
		if !strings.HasSuffix(name, ".go") || strings.HasSuffix(name, "_test.go") {
			continue
		}
		parsed, err := parser.ParseFile(token.NewFileSet(), name, nil, parser.ImportsOnly)
		if err != nil {
			t.Fatal(err)
		}
		for _, i := range parsed.Imports {
			if i.Path.Value != `"footlocker/layout"` {
				t.Errorf("%s imports %s", name, i.Path.Value)
			}
		}
	}
}
