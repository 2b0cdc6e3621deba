package layout_test

import (
	"math"
	"testing"

	"footlocker/api"
	"footlocker/layout"
)

// field is a number of an arena: how it is laid, and its limits as the chapter tells them.
type field struct {
	name        string
	lay         func(c *api.Config, n int)
	least, most int
}

func fields() []field {
	return []field{
		{"Threads", func(c *api.Config, n int) { c.Threads = n }, 1, 8},
		{"Slots", func(c *api.Config, n int) { c.Slots = n }, 1, 65536},
		{"Chunks", func(c *api.Config, n int) { c.Chunks = n }, 1, 64},
		{"Words", func(c *api.Config, n int) { c.Words = n }, 17, 256},
		{"Gens", func(c *api.Config, n int) { c.Gens = n }, 1, 65535},
		{"Sparse", func(c *api.Config, n int) { c.Sparse = n }, 0, 1000},
		{"Tries", func(c *api.Config, n int) { c.Tries = n }, 1, 16},
	}
}

// beyond is numbers that a field may not have.
func beyond(f field) []int {
	return []int{f.least - 1, f.least - 2, -f.most, -f.most - 1, -1, math.MinInt, math.MinInt + 1, f.most + 1, f.most + 2, f.most + 1<<16, f.most + 1<<32, f.least + 1<<32, math.MaxInt - 1, math.MaxInt}
}

// few, middle and many are arenas that may be: the least, one between, and the greatest.
func few() api.Config {
	return api.Config{Threads: 1, Slots: 1, Chunks: 1, Words: 17, Gens: 1, Sparse: 0, Tries: 1}
}

func middle() api.Config {
	return api.Config{Threads: 3, Slots: 5, Chunks: 2, Words: 20, Gens: 9, Sparse: 600, Tries: 3}
}

func many() api.Config {
	return api.Config{Threads: 8, Slots: 65536, Chunks: 64, Words: 256, Gens: 65535, Sparse: 1000, Tries: 16}
}

// arenas is arenas of unlike numbers of threads, slots, chunks and words.
func arenas() []api.Config {
	var l []api.Config
	for _, threads := range []int{1, 2, 5, 7, 8} {
		for _, slots := range []int{1, 2, 3, 17, 100} {
			for _, chunks := range []int{1, 2, 9, 63, 64} {
				for _, words := range []int{17, 18, 31, 64, 255, 256} {
					l = append(l, api.Config{Threads: threads, Slots: slots, Chunks: chunks, Words: words, Gens: 3, Sparse: 500, Tries: 4})
				}
			}
		}
	}
	most, less := many(), many()
	less.Slots--
	return append(l, few(), middle(), less, most)
}

func TestCheckAtEachLimit(t *testing.T) {
	for _, base := range []api.Config{few(), middle(), many()} {
		if !layout.Check(base) {
			t.Errorf("%v may be", base)
		}
		for _, f := range fields() {
			for _, n := range []int{f.least, f.least + 1, (f.least + f.most) / 2, f.most - 1, f.most} {
				c := base
				f.lay(&c, n)
				if !layout.Check(c) {
					t.Errorf("%s %d may be: %v", f.name, n, c)
				}
			}
			for _, n := range beyond(f) {
				c := base
				f.lay(&c, n)
				if layout.Check(c) {
					t.Errorf("%s %d may not be: %v", f.name, n, c)
				}
			}
		}
	}
}

func TestCheckAtEachNumber(t *testing.T) {
	for _, f := range fields() {
		for n := -70000; n <= 140000; n++ {
			c := middle()
			f.lay(&c, n)
			if layout.Check(c) != (n >= f.least && n <= f.most) {
				t.Fatalf("%s %d: %v", f.name, n, layout.Check(c))
			}
		}
	}
}

func TestCheckOfSeveralThatMayNotBe(t *testing.T) {
	if layout.Check(api.Config{}) {
		t.Error("an arena of nothing may not be")
	}
	// What is too little here is not made good by what is too much there.
	for i, f := range fields() {
		for j, g := range fields() {
			if i == j {
				continue
			}
			c := middle()
			f.lay(&c, f.least-1)
			g.lay(&c, g.most+1)
			if layout.Check(c) {
				t.Errorf("%s and %s: %v", f.name, g.name, c)
			}
		}
	}
}

func TestPlacesByNumber(t *testing.T) {
	c := middle()
	for _, x := range []struct {
		name      string
		got, want int
	}{
		{"Epoch", layout.Epoch(), 0},
		{"Top", layout.Top(), 1},
		{"Open 0", layout.Open(0), 2},
		{"Open 3", layout.Open(3), 5},
		{"Pin 0", layout.Pin(0), 6},
		{"Pin 2", layout.Pin(2), 8},
		{"Slot 0", layout.Slot(c, 0), 9},
		{"Slot 1", layout.Slot(c, 1), 11},
		{"Slot 4", layout.Slot(c, 4), 17},
		{"Chunk 0", layout.Chunk(c, 0), 19},
		{"Chunk 1", layout.Chunk(c, 1), 22},
		{"Base 0", layout.Base(c, 0), 25},
		{"Base 1", layout.Base(c, 1), 45},
		{"Len", layout.Len(c), 65},
		{"Len of the least", layout.Len(few()), 29},
		{"Len of the greatest", layout.Len(many()), 147662},
	} {
		if x.got != x.want {
			t.Errorf("%s: %d, not %d", x.name, x.got, x.want)
		}
	}
}

// walk goes over an arena as the chapter tells it, and lays word behind word.
type walk struct {
	t  *testing.T
	c  api.Config
	at int
}

// pass asks that a thing of so many words stands here, and goes on behind it.
func (w *walk) pass(name string, i, got, words int) {
	w.t.Helper()
	if got != w.at {
		w.t.Fatalf("%v: %s %d stands at %d, not %d", w.c, name, i, got, w.at)
	}
	w.at += words
}

func TestWordsStandOneBehindTheOther(t *testing.T) {
	for _, c := range arenas() {
		w := &walk{t: t, c: c}
		w.pass("epoch", 0, layout.Epoch(), 1)
		w.pass("top", 0, layout.Top(), 1)
		for i := range 4 {
			w.pass("open", i, layout.Open(i), 1)
		}
		for i := range c.Threads {
			w.pass("pin", i, layout.Pin(i), 1)
		}
		for i := range c.Slots {
			w.pass("slot", i, layout.Slot(c, i), 2)
		}
		for i := range c.Chunks {
			w.pass("chunk", i, layout.Chunk(c, i), 3)
		}
		for i := range c.Chunks {
			w.pass("base", i, layout.Base(c, i), c.Words)
		}
		w.pass("len", 0, layout.Len(c), 0)
		if w.at > api.MostAddress+1 {
			t.Errorf("%v has %d words, more than a memory may", c, w.at)
		}
	}
}

func TestPlacesHangOnWhatStandsAlone(t *testing.T) {
	a := middle()
	b := a
	b.Gens, b.Sparse, b.Tries = 65535, 0, 16
	if layout.Slot(a, 4) != layout.Slot(b, 4) || layout.Chunk(a, 1) != layout.Chunk(b, 1) || layout.Base(a, 1) != layout.Base(b, 1) || layout.Len(a) != layout.Len(b) {
		t.Error("Gens, Sparse and Tries take no words")
	}
	for addr := range layout.Len(a) {
		if layout.Of(a, addr) != layout.Of(b, addr) {
			t.Error("Gens, Sparse and Tries take no words", addr)
		}
	}
}

func TestOfAtEachAddress(t *testing.T) {
	for _, c := range arenas() {
		base := layout.Base(c, 0)
		want := make([]int, base+c.Chunks*c.Words)
		for a := range want {
			want[a] = -1
		}
		for chunk := range c.Chunks {
			for i := range c.Words {
				want[base+chunk*c.Words+i] = chunk
			}
		}
		for a, chunk := range want {
			if got := layout.Of(c, a); got != chunk {
				t.Fatalf("%v: word %d is of chunk %d, not %d", c, a, got, chunk)
			}
		}
		// As many again on both sides: none is of a chunk, not even where a division would round towards 0.
		for i := range 2 * c.Words {
			if below, behind := layout.Of(c, -1-i), layout.Of(c, len(want)+i); below != -1 || behind != -1 {
				t.Fatalf("%v: word %d is of chunk %d, word %d of chunk %d", c, -1-i, below, len(want)+i, behind)
			}
		}
		for _, a := range []int{math.MinInt, math.MinInt + 1, math.MinInt + base, -1 << 32, 1<<32 + base, math.MaxInt - 1, math.MaxInt} {
			if got := layout.Of(c, a); got != -1 {
				t.Errorf("%v: word %d is of chunk %d", c, a, got)
			}
		}
	}
}

func TestClassOfEachSize(t *testing.T) {
	want := []int{-1, 0, 0, 1, 1, 2, 2, 2, 2, 3, 3, 3, 3, 3, 3, 3, 3, -1}
	for size, class := range want {
		if got := layout.Class(size); got != class {
			t.Errorf("size %d is of class %d, not %d", size, got, class)
		}
	}
	for n := 1; n < 1000; n++ {
		if a, b := layout.Class(-n), layout.Class(api.MostSize+n); a != -1 || b != -1 {
			t.Errorf("size %d is of class %d, size %d of class %d", -n, a, api.MostSize+n, b)
		}
	}
	for _, size := range []int{math.MinInt, math.MinInt + 2, -1 << 32, 1 << 32, 1<<32 + 2, math.MaxInt - 1, math.MaxInt} {
		if got := layout.Class(size); got != -1 {
			t.Errorf("size %d is of class %d", size, got)
		}
	}
}

func TestRoomOfEachClass(t *testing.T) {
	for class, room := range []int{3, 5, 9, 17} {
		if got := layout.Room(class); got != room {
			t.Errorf("class %d takes %d words, not %d", class, got, room)
		}
	}
	for _, class := range []int{math.MinInt, -64, -4, -2, -1, 4, 5, 62, 63, 64, 65, 1 << 32, 1<<32 + 1, math.MaxInt} {
		if got := layout.Room(class); got != 0 {
			t.Errorf("class %d, which is none, takes %d words", class, got)
		}
	}
}

func TestSizesFitIntoTheirClass(t *testing.T) {
	// The chapter's example.
	if layout.Class(3) != 1 || layout.Room(layout.Class(3)) != 5 {
		t.Error("size 3 is of class 1, and takes 5 words")
	}
	for size := 1; size <= api.MostSize; size++ {
		class := layout.Class(size)
		if layout.Room(class) < size+1 {
			t.Errorf("size %d does not fit into class %d", size, class)
		}
		if class > 0 && layout.Room(class-1) >= size+1 {
			t.Errorf("size %d fits into class %d already", size, class-1)
		}
		if layout.Room(class) > api.LeastChunk {
			t.Errorf("size %d does not fit into the least chunk", size)
		}
	}
}
