package list_test

import (
	"go/parser"
	"go/token"
	"math"
	"os"
	"slices"
	"strings"
	"testing"

	"footlocker/api"
	"footlocker/layout"
	"footlocker/list"
	"footlocker/mem"
)

// odd is numbers of all kinds, most of which may not be.
func odd() []int {
	return []int{math.MinInt, math.MinInt + 1, -1 << 32, -65, -6, -5, -4, -3, -2, -1, 0, 1, 2, 3, 4, 5, 7, 8, 9, 16, 17, 18, 63, 64, 65, 256, 257, 1 << 16, 1<<16 + 2, 1 << 20, 1<<32 - 1, 1 << 32, 1<<32 + 2, 1<<33 + 5, 1 << 40, math.MaxInt / 3, math.MaxInt/2 - 4, math.MaxInt / 2, math.MaxInt - 7, math.MaxInt - 1, math.MaxInt}
}

func TestANilOneAndOneThatNobodyMade(t *testing.T) {
	e := entered(t, arena(4, 3, 20), 1)
	var none *list.List
	for _, l := range []*list.List{none, {}} {
		wantNoStep(t, e, func() {
			for range 5 {
				for _, v := range []layout.Env{e, {}, {C: e.C}, {M: e.M}} {
					if !l.Step(v) {
						t.Fatal("it is done")
					}
					wantDone(t, l, api.Done{E: api.ErrInput})
				}
			}
		})
	}
}

func TestNewDoesNothing(t *testing.T) {
	e := entered(t, arena(4, 3, 20), 1)
	wantNoStep(t, e, func() {
		for kind := -1; kind <= 5; kind++ {
			for _, key := range odd() {
				list.Check(kind, key)
				if l, _ := list.New(kind, key, 65536); l != nil {
					l.Done()
				}
			}
		}
	})
}

func TestEachOneIsItsOwn(t *testing.T) {
	// Two that ask the same, in two arenas, know nothing of each other.
	c, d := newCrowd(t, arena(4, 3, 20), 1), newCrowd(t, arena(4, 3, 20), 1)
	d.fill(5)
	a, b := asks(t, add, 5, c.heads[0]), asks(t, add, 5, d.heads[0])
	for done := false; !done; {
		done = a.Step(c.e)
		wantDone(t, b, api.Done{})
	}
	for !b.Step(d.e) {
	}
	if a.Done().Value != 1 || b.Done().Value != 0 {
		t.Fatal(a.Done(), b.Done())
	}
	x := a.Done()
	x.Value = 99
	if a.Done().Value != 1 {
		t.Fatal(a.Done())
	}
}

// wantEnds asks that one whom nobody disturbs is done, wherever it works, each step touches one word at most, by Who, and what it may come to.
func wantEnds(t *testing.T, e layout.Env, l *list.List) api.Done {
	t.Helper()
	chunks := min(max(e.C.Chunks, 0), api.MostChunks)
	for most := 2000 + chunks*(2*chunks+8); !wantOneStep(t, e, l); most-- {
		if most < 0 {
			t.Fatalf("%v: it is not done", e.C)
		}
	}
	wantNoStep(t, e, func() {
		if !l.Step(e) {
			t.Fatal("it was done")
		}
	})
	d := l.Done()
	if d.Handle != 0 || d.Value < 0 || d.Value > 1 || d.E != api.OK && d.Value != 0 || d.E < api.OK || d.E > api.ErrHandles {
		t.Fatalf("%v: it came to %+v", e.C, d)
	}
	return d
}

// wantOneStep asks that a step touches one word at most, by Who: whether it is done.
func wantOneStep(t *testing.T, e layout.Env, l *list.List) bool {
	t.Helper()
	now := e.Now()
	e.M.By(e.Who + 1)
	done := l.Step(e)
	if e.Now() > now+1 || e.Now() > now && e.M.Last().Who != e.Who {
		t.Fatalf("%d steps, the last one %v", e.Now()-now, e.M.Last())
	}
	return done
}

func TestOneThatIsNoThread(t *testing.T) {
	// It has no pin, and touches nobody's; what it does is what it is.
	for _, who := range odd() {
		for kind := has; kind <= remove; kind++ {
			for key := 2; key <= 8; key++ {
				c := three(t)
				for th := range c.e.C.Threads {
					if th != who {
						c.e.M.Store(pinAt(th), uint64(th+1))
					}
				}
				pins := words(c.e.M)[pinAt(0):pinAt(3)]
				d := wantEnds(t, by(c.e, who), asks(t, kind, key, c.heads[0]))
				if is := words(c.e.M)[pinAt(0):pinAt(3)]; !slices.Equal(is, pins) {
					t.Fatalf("by %d: the pins are %v, not %v", who, is, pins)
				}
				if there := key%2 == 1 && key < 8; d.E != api.OK || (d.Value == 1) != (there != (kind == add)) {
					t.Fatalf("by %d: kind %d, key %d came to %+v", who, kind, key, d)
				}
			}
		}
	}
}

// maimed is arenas of which one or two things are such a number.
func maimed(n int) []api.Config {
	l := make([]api.Config, 10)
	for i := range l {
		l[i] = arena(8, 4, 20)
	}
	l[0].Threads = n
	l[1].Slots = n
	l[2].Chunks = n
	l[3].Words = n
	l[4].Gens = n
	l[5].Sparse = n
	l[6].Tries = n
	l[7].Threads, l[7].Chunks = n, n
	l[8].Slots, l[8].Words = n, n
	l[9].Chunks, l[9].Words = n, n
	return append(l, api.Config{}, api.Config{Threads: n}, api.Config{Chunks: n, Words: n})
}

func TestArenasThatMayNotBe(t *testing.T) {
	t.Parallel()
	one, _ := mem.New(1)
	for _, n := range odd() {
		for _, a := range maimed(n) {
			for _, who := range []int{0, 2, n} {
				for kind := has; kind <= remove; kind++ {
					c := three(t)
					for _, m := range []*mem.Mem{nil, {}, one, c.e.M} {
						// An arena that may be is another one than that of the memory, or that itself.
						if layout.Check(a) && a.Slots*a.Chunks*a.Words*a.Threads != 8*4*20*3 {
							continue
						}
						d := wantEnds(t, layout.Env{C: a, M: m, Who: who}, asks(t, kind, 5, c.heads[0]))
						if d.E != api.ErrInvalid && (!layout.Check(a) || m != c.e.M) {
							t.Fatalf("%v: kind %d came to %+v", a, kind, d)
						}
					}
				}
			}
		}
	}
}

func TestMemoriesOfEachLength(t *testing.T) {
	t.Parallel()
	whole := three(t)
	l := words(whole.e.M)
	for n := 1; n <= len(l)+3; n++ {
		for kind := has; kind <= remove; kind++ {
			m, _ := mem.New(n)
			for a := range min(n, len(l)) {
				m.Store(a, l[a])
			}
			e := layout.Env{C: whole.e.C, M: m, Who: 1}
			d := wantEnds(t, e, asks(t, kind, 5, whole.heads[0]))
			if (n < len(l)) != (d.E == api.ErrInvalid) {
				t.Fatalf("%d words: kind %d came to %+v", n, kind, d)
			}
			if w := m.Peek(pinAt(1)); w != 0 {
				t.Fatalf("%d words: the pin is %d", n, w)
			}
		}
	}
}

func TestAnyWords(t *testing.T) {
	t.Parallel()
	// In a memory that nobody laid so no step panics, and each touches one word at most. A list there may have no end.
	x := uint64(5)
	for n := range 300 {
		e := entered(t, arena(1+n%9, 1+n%7, 17+n%40), n%3)
		for a := range e.M.Len() {
			x = x*6364136223846793005 + 1442695040888963407
			e.M.Store(a, x>>(x>>58))
		}
		for s := range min(4, e.C.Slots) {
			for kind := has; kind <= remove; kind++ {
				l := asks(t, kind, int(x>>40), handle(s, genOf(e.M.Peek(slotAt(e.C, s)))))
				for range 400 {
					if wantOneStep(t, e, l) {
						break
					}
				}
			}
		}
	}
}

func TestAnyKeysAndLinks(t *testing.T) {
	t.Parallel()
	// The nodes are what they are, but their words are of all kinds: each step is safe, as ever.
	x := uint64(9)
	for range 300 {
		c := three(t)
		for n := range 4 {
			var next, bits, key int
			next, x = mixed(x, 6)
			bits, x = mixed(x, 5)
			key, x = mixed(x, 9)
			c.act(0, writes(of(n), 0, key+1<<(9*bits)))
			c.act(0, writes(of(n), 1, int(of(next))+[]int{0, 0, 0, toGo, 1 << 36}[bits]))
		}
		for kind := has; kind <= remove; kind++ {
			l := asks(t, kind, 1+int(x>>60), c.heads[0])
			for range 500 {
				now := c.e.Now()
				if wantOneStep(t, by(c.e, 1), l) {
					break
				}
				if c.e.Now() > now {
					wantSafe(t, c.e)
				}
			}
			c.e.M.Store(pinAt(1), 0)
		}
	}
}

func TestAnEnvThatIsAnotherOneEachTime(t *testing.T) {
	t.Parallel()
	// Who changes the arena midway is answered all the same.
	one, _ := mem.New(1)
	for ahead := range 90 {
		for kind := has; kind <= remove; kind++ {
			for k := range 9 {
				big, small := three(t), newCrowd(t, arena(2, 1, 17), 1)
				small.fill(5)
				v := []layout.Env{
					{}, {C: big.e.C}, {M: big.e.M}, {C: big.e.C, M: one}, small.e, {C: small.e.C, M: big.e.M}, {C: big.e.C, M: small.e.M}, by(big.e, 2), by(big.e, -1),
				}[k]
				a := asks(t, kind, 4+ahead%2, big.heads[0])
				for range ahead {
					a.Step(big.e)
				}
				wantEnds(t, v, a)
				b := asks(t, kind, 4+ahead%2, big.heads[0])
				for n := range 300 {
					if b.Step([]layout.Env{v, big.e, small.e}[n%3]) {
						break
					}
				}
			}
		}
	}
}

func TestTheSameStepsTellTheSame(t *testing.T) {
	play := func() ([]told, []uint64) {
		c := crowded(t, 7, arena(12, 9, 40), 2, 6)
		return c.told, words(c.e.M)
	}
	l, w := play()
	for range 4 {
		if k, v := play(); !slices.Equal(k, l) || !slices.Equal(v, w) {
			t.Error("it is told otherwise")
		}
	}
}

func TestStandsOnThoseBelowAlone(t *testing.T) {
	files, err := os.ReadDir(".")
	if err != nil {
		t.Fatal(err)
	}
	below := []string{`"footlocker/act"`, `"footlocker/api"`, `"footlocker/layout"`}
	for _, f := range files {
		name := f.Name()
		if !strings.HasSuffix(name, ".go") || strings.HasSuffix(name, "_test.go") {
			continue
		}
		parsed, err := parser.ParseFile(token.NewFileSet(), name, nil, parser.ImportsOnly)
		if err != nil {
			t.Fatal(err)
		}
		for _, i := range parsed.Imports {
			if !slices.Contains(below, i.Path.Value) {
				t.Errorf("%s imports %s", name, i.Path.Value)
			}
		}
	}
}
