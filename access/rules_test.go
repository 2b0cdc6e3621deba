package access_test

import (
	"go/parser"
	"go/token"
	"math"
	"os"
	"slices"
	"strings"
	"testing"

	"footlocker/access"
	"footlocker/api"
	"footlocker/layout"
	"footlocker/mem"
)

// odd is numbers of all kinds, most of which may not be.
func odd() []int {
	return []int{math.MinInt, math.MinInt + 1, -1 << 32, -65, -6, -5, -4, -3, -2, -1, 0, 1, 2, 3, 4, 5, 6, 7, 9, 16, 17, 18, 63, 64, 65, 256, 257, 1 << 16, 1<<16 + 2, 1 << 20, 1 << 32, 1<<32 + 2, 1<<40 - 1, 1 << 40, math.MaxInt/2 - 4, math.MaxInt / 2, math.MaxInt - 7, math.MaxInt - 1, math.MaxInt}
}

// numbers is numbers of all kinds as handles, or as words.
func numbers() []uint64 {
	l := []uint64{handle(0, 1), handle(1, 3), handle(1, 1), handle(2, 1), handle(65535, 65535)}
	for _, n := range odd() {
		l = append(l, uint64(n))
	}
	return l
}

// mixed is a number below n, and the next state of what it is mixed from.
func mixed(x uint64, n int) (int, uint64) {
	x = x*6364136223846793005 + 1442695040888963407
	return int(x >> 33 % uint64(n)), x
}

func TestWhoeverDoesIt(t *testing.T) {
	// The compactor, or one that is no thread, does as all do.
	for _, who := range odd() {
		e, x := placed(t, 8, false)
		e.Who = who
		wantNotOwn(t, e, x, x.read(1))
		wantWritten(t, e, x, 1, x.value(1), 6)
		wantExchanged(t, e, x, 1, 6, 7)
		wantOther(t, e, x, 1, 6, 7)
		wantNoIndex(t, e, x, x.read(8))
		wantNone(t, e, api.Want{Kind: reading, Handle: handle(2, 2)}, false)
	}
}

// wantEnd asks that one whom nobody disturbs is done behind as many steps as there are, at most, wherever it works, and what it may come to.
func wantEnd(t *testing.T, e layout.Env, want api.Want, own bool) api.Done {
	t.Helper()
	a := access.New(want, own)
	// Three to see, two for each cell to help, one more each time, and once more from the beginning.
	for most := 2*api.MostSize + 10; !a.Step(e); most-- {
		if most <= 0 {
			t.Fatalf("%v: %v is not done", e.C, want)
		}
	}
	got := a.Done()
	wantMay(t, got, want, e.Now())
	return got
}

// wantMay asks that it came to what it may come to.
func wantMay(t *testing.T, got api.Done, want api.Want, now int) {
	t.Helper()
	kind := want.Kind >= reading && want.Kind <= exchanging
	is := false
	switch got.E {
	case api.OK:
		is = kind && (want.Kind != exchanging || got.Value == want.Old)
	case api.ErrOther:
		is = want.Kind == exchanging && got.Value != want.Old
	case api.ErrInvalid, api.ErrIndex:
		is = kind && got.Value == 0
	case api.ErrInput:
		is = !kind && got.Value == 0
	}
	if !is || got.Handle != 0 || got.Stamp > now || got.Value < 0 || got.Value > api.MostValue {
		t.Fatalf("%v came to %v", want, got)
	}
}

// maimed is arenas of which one or two things may not be.
func maimed(n int) []api.Config {
	l := make([]api.Config, 9)
	for i := range l {
		l[i] = arena(4, 3, 40)
	}
	l[0].Threads = n
	l[1].Slots = n
	l[2].Chunks = n
	l[3].Words = n
	l[4].Gens = n
	l[5].Sparse = n
	l[6].Tries = n
	l[7].Threads, l[7].Chunks = n, n
	l[8].Slots, l[8].Words = n, n
	return l
}

func TestArenasThatMayNotBe(t *testing.T) {
	one, _ := mem.New(1)
	e, x := placed(t, 4, false)
	for i, n := range odd() {
		for _, c := range append(maimed(n), api.Config{}, api.Config{Slots: n}, api.Config{Threads: n, Slots: 3}) {
			for _, number := range numbers() {
				want := api.Want{Kind: 1 + i%3, Handle: number, Index: i % 5, Value: n, Old: n}
				for _, m := range []*mem.Mem{nil, {}, one} {
					v := layout.Env{C: c, M: m, Who: n}
					if d := wantEnd(t, v, want, false); d != (api.Done{E: api.ErrInvalid}) {
						t.Fatalf("%v: %v", c, d)
					}
				}
				if layout.Check(c) {
					continue
				}
				wantNoStep(t, e, func() {
					v := layout.Env{C: c, M: e.M, Who: n}
					if d := wantEnd(t, v, want, false); d != (api.Done{E: api.ErrInvalid, Stamp: e.Now()}) {
						t.Fatalf("%v: %v", c, d)
					}
				})
			}
		}
	}
	wantWritten(t, e, x, 0, x.value(0), 1)
}

func TestArenasThatDoNotFitTheirMemory(t *testing.T) {
	for chunks := 1; chunks <= api.MostChunks; chunks += 7 {
		for _, slots := range []int{1, 2, 3, 4, 9, 50, api.MostSlots} {
			for _, words := range []int{17, 21, 40, 256} {
				e, x := placed(t, 4, false)
				e.C = arena(slots, chunks, words)
				for s := range 5 {
					for _, want := range x.all(s) {
						want.Handle = handle(s, 3)
						wantEnd(t, e, want, false)
					}
				}
			}
		}
	}
}

func TestMemoriesOfEachLength(t *testing.T) {
	whole, x := placed(t, 4, false)
	l := words(whole.M)
	for n := 1; n <= len(l); n++ {
		m, _ := mem.New(n)
		for a := range n {
			m.Store(a, l[a])
		}
		e := layout.Env{C: whole.C, M: m, Who: 1}
		for _, want := range x.all(1) {
			now := e.Now()
			d := wantEnd(t, e, want, false)
			if n == len(l) && d.E == api.ErrInvalid || n < len(l) && (d.E != api.ErrInvalid || e.Now() != now) {
				t.Fatalf("of %d words: %v", n, d)
			}
		}
	}
}

func TestAnyWant(t *testing.T) {
	// Whatever is handed in: it ends; and changes a word just if it is told that it did.
	n := uint64(5)
	pick := func(l []int) (k int) {
		k, n = mixed(n, len(l))
		return l[k]
	}
	for i := range 20000 {
		e, x := placed(t, 4, i%2 == 0)
		number := x.number()
		if i%3 == 0 {
			number = n >> (n >> 58)
		}
		want := api.Want{Kind: pick(odd()), Handle: number, Index: pick(odd()), Value: pick(odd()), Old: pick(odd())}
		if i%5 < 3 {
			want.Kind = 1 + i%5
		}
		if i%7 < 4 {
			want.Index = i % 7
		}
		if i%11 < 4 {
			want.Old = x.value(i % 11)
		}
		l := words(e.M)
		d := wantEnd(t, e, want, n>>40&1 == 0)
		if d.E == api.OK && want.Kind != reading {
			l[x.at(want.Index)] = uint64(min(max(want.Value, 0), api.MostValue))
		}
		if !slices.Equal(words(e.M), l) {
			t.Fatalf("%v came to %v, and changed others", want, d)
		}
	}
}

func TestAnyNumberAsAHandle(t *testing.T) {
	e, x := placed(t, 4, true)
	n := uint64(5)
	for range 3000 {
		n = n*6364136223846793005 + 1442695040888963407
		// Shifted, so that small ones come, too.
		if number := n >> (n >> 58); number != x.number() {
			wantNone(t, e, api.Want{Kind: 1 + int(n>>40%3), Handle: number, Index: int(n >> 50 % 5)}, n&1 != 0)
		}
	}
	for k := range 4 {
		wantRead(t, e, x, k, x.value(k))
	}
}

func TestWhatAnyWordsLeadTo(t *testing.T) {
	// In a memory that nobody laid so each step ends, and touches one word at most; who reads ends, too, and changes none.
	n := uint64(5)
	for range 300 {
		e := filled(t, arena(4, 4, 20), 1)
		for a := range e.M.Len() {
			n = n*6364136223846793005 + 1442695040888963407
			e.M.Store(a, n>>(n>>58))
		}
		for s := range 4 {
			w := e.M.Peek(slotAt(e.C, s))
			number := handle(s, genOf(w))
			l := words(e.M)
			wantEnd(t, e, api.Want{Kind: reading, Handle: number, Index: int(n >> 60)}, s%2 == 0)
			if !slices.Equal(words(e.M), l) {
				t.Fatal("who reads changed a word")
			}
			a := access.New(api.Want{Kind: writing, Handle: number, Index: int(n >> 60), Value: s}, s%2 == 0)
			for range 50 {
				now := e.Now()
				if a.Step(e) {
					break
				}
				if e.Now() > now+1 {
					t.Fatalf("%d steps", e.Now()-now)
				}
			}
		}
	}
}

func TestObjectsInNoChunk(t *testing.T) {
	// Nobody made them: there is no head to be loaded, and nothing is changed.
	c := arena(4, 3, 40)
	for _, state := range []int{live, moving, dropping} {
		for _, addr := range []int{0, 1, 2, 9, slotAt(c, 1), chunkAt(c, 0), baseAt(c, 0) - 1, baseAt(c, 3), baseAt(c, 3) + 1, api.MostAddress} {
			e := filled(t, c, 0)
			e.M.Store(slotAt(c, 1), slotWord(state, addr, 3, 0))
			for _, want := range (thing{slot: 1, gen: 3}).all(0) {
				wantNone(t, e, want, false)
				wantNone(t, e, want, true)
			}
		}
	}
}

func TestHeadsThatAreNone(t *testing.T) {
	// Of a size that is none there are no words, nor of an object that would stand in two chunks: none is touched.
	for _, state := range []int{live, moving, dropping} {
		for _, size := range []int{0, 17, 18, 100, 1<<16 - 1} {
			e, x := standing(t, 2, state, 3)
			e.M.Store(x.addr, head(ready, size, 1, 3, false))
			for _, k := range []int{0, 1, 16, size - 1} {
				for _, want := range x.all(k) {
					wantNoIndex(t, e, x, want)
				}
			}
		}
		for chunk := range 3 {
			for size := 2; size <= api.MostSize; size++ {
				e, x := standing(t, 2, state, 3)
				x.addr = baseAt(e.C, chunk) + 40 - size
				e.M.Store(slotAt(e.C, 1), x.word())
				e.M.Store(x.addr, head(ready, size, 1, 3, false))
				for _, k := range []int{0, size - 1} {
					for _, want := range x.all(k) {
						wantNoIndex(t, e, x, want)
					}
				}
			}
		}
	}
}

func TestAnEnvThatIsAnotherOneEachTime(t *testing.T) {
	// Who changes the arena midway is answered all the same.
	one, _ := mem.New(1)
	for ahead := range 12 {
		for _, state := range []int{live, moving, dropping} {
			for i := range 7 {
				for which := range 4 {
					big, x := standing(t, 2, state, 3)
					freezeAll(big, x, 3-state%2)
					small := filled(t, arena(1, 1, 17), 1)
					v := []layout.Env{small, {}, {C: big.C}, {M: big.M}, {C: small.C, M: big.M}, {C: big.C, M: one}, {C: arena(2, 3, 40), M: big.M}}[i]
					a := access.New(x.all(1)[which], false)
					for range ahead {
						a.Step(big)
					}
					for most := 0; !a.Step(v); most++ {
						if most > 30 {
							t.Fatal("not done")
						}
					}
					wantMay(t, a.Done(), x.all(1)[which], max(big.Now(), small.Now()))
				}
			}
		}
	}
}

func TestTheSameStepsTellTheSame(t *testing.T) {
	run := func() ([]api.Done, []uint64) {
		e := filled(t, arena(9, 4, 60), 0)
		for s := range 9 {
			lay(e, thing{slot: s, gen: 1 + s, state: live, size: 1 + s, addr: baseAt(e.C, s%4) + 20*(s/4)})
		}
		l := make([]*access.Access, 4)
		var told []api.Done
		for i := range 400 {
			e.Who = i * i % 7 % 4
			if a := l[e.Who]; a == nil || a.Step(e) {
				told = append(told, a.Done())
				s := i / 9 % 9
				l[e.Who] = access.New(api.Want{Kind: 1 + i%3, Handle: handle(s, 1+s), Index: i % 4, Value: i, Old: i % 2}, i%5 == 0)
			}
		}
		return told, words(e.M)
	}
	told, l := run()
	for range 5 {
		if again, k := run(); !slices.Equal(again, told) || !slices.Equal(k, l) {
			t.Error(told, again)
		}
	}
}

func TestStandsOnThoseBelowAlone(t *testing.T) {
	files, err := os.ReadDir(".")
	if err != nil {
		t.Fatal(err)
	}
	below := []string{`"footlocker/api"`, `"footlocker/drop"`, `"footlocker/layout"`, `"footlocker/word"`}
	for _, f := range files {
		name := f.Name()
		if !strings.HasSuffix(name, ".go") || strings.HasSuffix(name, "_test.go") {
			continue
		}
		parsed, err := parser.ParseFile(token.NewFileSet(), name, nil, parser.ImportsOnly)
		if err != nil {
			t.Fatal(err)
		}
		for _, i := range parsed.Imports {
			if !slices.Contains(below, i.Path.Value) {
				t.Errorf("%s imports %s", name, i.Path.Value)
			}
		}
	}
}
