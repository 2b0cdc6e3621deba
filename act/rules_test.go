package act_test

import (
	"go/parser"
	"go/token"
	"math"
	"os"
	"slices"
	"strings"
	"testing"

	"footlocker/act"
	"footlocker/api"
	"footlocker/layout"
	"footlocker/mem"
)

// odd is numbers of all kinds, most of which may not be.
func odd() []int {
	return []int{math.MinInt, math.MinInt + 1, -1 << 32, -65, -6, -5, -4, -3, -2, -1, 0, 1, 2, 3, 4, 5, 7, 8, 9, 16, 17, 18, 63, 64, 65, 256, 257, 1 << 16, 1<<16 + 2, 1 << 20, 1 << 32, 1<<32 + 2, math.MaxInt / 3, math.MaxInt/2 - 4, math.MaxInt / 2, math.MaxInt - 7, math.MaxInt - 1, math.MaxInt}
}

func TestANilOne(t *testing.T) {
	var a *act.Act
	e := entered(t, arena(4, 3, 20), 1)
	wantNoStep(t, e, func() {
		for range 5 {
			for _, v := range []layout.Env{e, {}, {C: e.C}, {M: e.M}} {
				if !a.Step(v) {
					t.Fatal("it is done")
				}
				wantDone(t, a, api.Done{E: api.ErrInput})
			}
		}
	})
}

func TestNobodyMadeIt(t *testing.T) {
	// One that New did not make is as a nil one.
	a := &act.Act{}
	e := entered(t, arena(4, 3, 20), 1)
	wantNoStep(t, e, func() {
		for range 5 {
			wantDone(t, a, api.Done{E: api.ErrInput})
			if !a.Step(e) {
				t.Fatal("it is done")
			}
		}
	})
	wantDone(t, a, api.Done{E: api.ErrInput})
}

func TestWhatIsHandedInMayBeChangedLater(t *testing.T) {
	e := entered(t, arena(4, 3, 20), 1)
	o := made(t, e, 2, false)
	x := writes(o.number(), 1, 7, false)
	a := begun(t, x)
	x = api.Act{Kind: 2, Handle: o.number(), Own: true, Index: 5}
	for !a.Step(e) {
		x.Value++
	}
	wantWords(t, e, o, 50, 7)
	d := a.Done()
	d.Value = 99
	if a.Done().Value != 51 {
		t.Fatal(a.Done())
	}
}

func TestEachOneIsItsOwn(t *testing.T) {
	// Two of the same act, in two arenas, know nothing of each other.
	x := makes(3, false)
	a, b := begun(t, x), begun(t, x)
	e, f := entered(t, arena(4, 3, 20), 1), entered(t, arena(4, 3, 20), 0)
	made(t, f, 2, false)
	for done := false; !done; {
		done = a.Step(e)
		wantDone(t, b, api.Done{})
	}
	for !b.Step(f) {
	}
	if a.Done().Handle != handle(0, 1) || b.Done().Handle != handle(1, 1) {
		t.Fatal(a.Done(), b.Done())
	}
}

// wantEnd asks that one whom nobody disturbs is done, wherever it works, each step touches one word at most, by Who, and what it may come to.
func wantEnd(t *testing.T, e layout.Env, x api.Act) api.Done {
	t.Helper()
	return wantEnds(t, e, begun(t, x), x)
}

// wantEnds is the same of one that is on the way.
func wantEnds(t *testing.T, e layout.Env, a *act.Act, x api.Act) api.Done {
	t.Helper()
	chunks := min(max(e.C.Chunks, 0), api.MostChunks)
	for most := 200 + chunks*(2*chunks+8); ; most-- {
		if most < 0 {
			t.Fatalf("%v: %+v is not done", e.C, x)
		}
		now := e.Now()
		done := a.Step(e)
		if e.Now() > now+1 || e.Now() > now && e.M.Last().Who != e.Who {
			t.Fatalf("%d steps, the last one %v", e.Now()-now, e.M.Last())
		}
		if done {
			break
		}
	}
	wantNoStep(t, e, func() {
		if !a.Step(e) {
			t.Fatal("it was done")
		}
	})
	d := a.Done()
	if d.E != api.OK && d.Handle != 0 || d.E != api.OK && d.E != api.ErrOther && d.Value != 0 || d.E < api.OK || d.E > api.ErrOther || d.E == api.ErrAddress {
		t.Fatalf("%v: %+v came to %+v", e.C, x, d)
	}
	return d
}

// some is an act of each kind.
func some(n uint64) []api.Act {
	return append(all(n, 1, false), makes(2, false), makes(7, true), makes(16, false), makes(17, false))
}

func TestOneThatIsNoThread(t *testing.T) {
	// It has no pin, and touches nobody's; what it does is what it is.
	for _, who := range odd() {
		for i := range some(0) {
			e := entered(t, arena(4, 3, 20), 0)
			o := made(t, e, 2, false)
			for th := range e.C.Threads {
				if th != who {
					e.M.Store(pinAt(th), uint64(th+1))
				}
			}
			want := pins(e)
			x := some(o.number())[i]
			d := wantEnd(t, by(e, who), x)
			if !slices.Equal(pins(e), want) {
				t.Fatalf("by %d: the pins are %v, not %v", who, pins(e), want)
			}
			may := []api.Errno{api.OK, api.OK, api.OK, api.ErrOther, api.OK, api.OK, api.OK, api.ErrSize}
			if d.E != may[i] {
				t.Fatalf("by %d: %+v came to %+v", who, x, d)
			}
		}
	}
}

// maimed is arenas of which one or two things are such a number.
func maimed(n int) []api.Config {
	l := make([]api.Config, 10)
	for i := range l {
		l[i] = arena(4, 3, 20)
	}
	l[0].Threads = n
	l[1].Slots = n
	l[2].Chunks = n
	l[3].Words = n
	l[4].Gens = n
	l[5].Sparse = n
	l[6].Tries = n
	l[7].Threads, l[7].Chunks = n, n
	l[8].Slots, l[8].Words = n, n
	l[9].Chunks, l[9].Words = n, n
	return append(l, api.Config{}, api.Config{Threads: n}, api.Config{Chunks: n, Words: n})
}

func TestArenasThatMayNotBe(t *testing.T) {
	t.Parallel()
	one, _ := mem.New(1)
	for _, n := range odd() {
		for _, c := range maimed(n) {
			for _, who := range []int{0, 2, n} {
				for i := range some(0) {
					e := entered(t, arena(4, 3, 20), 0)
					o := made(t, e, 2, false)
					x := some(o.number())[i]
					for _, m := range []*mem.Mem{nil, {}, one, e.M} {
						d := wantEnd(t, layout.Env{C: c, M: m, Who: who}, x)
						if !layout.Check(c) && d.E == api.OK {
							t.Fatalf("%v: %+v came to %+v", c, x, d)
						}
					}
				}
			}
		}
	}
}

func TestMemoriesOfEachLength(t *testing.T) {
	whole := entered(t, arena(4, 3, 20), 0)
	o := made(t, whole, 2, false)
	l := words(whole.M)
	for n := 1; n <= len(l)+3; n++ {
		for i := range some(0) {
			m, _ := mem.New(n)
			for a := range min(n, len(l)) {
				m.Store(a, l[a])
			}
			e := layout.Env{C: whole.C, M: m, Who: 1}
			x := some(o.number())[i]
			d := wantEnd(t, e, x)
			if n < len(l) && x.Kind != 1 && d.E != api.ErrInvalid {
				t.Fatalf("%d words: %+v came to %+v", n, x, d)
			}
			if w := m.Peek(pinAt(1)); w != 0 {
				t.Fatalf("%d words: the pin is %d", n, w)
			}
		}
	}
}

func TestAnyWords(t *testing.T) {
	t.Parallel()
	// In a memory that nobody laid so acts end, too, with the pin 0.
	x := uint64(5)
	for n := range 400 {
		e := entered(t, arena(1+n%9, 1+n%7, 17+n%40), n%3)
		for a := range e.M.Len() {
			x = x*6364136223846793005 + 1442695040888963407
			e.M.Store(a, x>>(x>>58))
		}
		for s := range min(4, e.C.Slots) {
			w := e.M.Peek(slotAt(e.C, s))
			for _, y := range some(handle(s, genOf(w))) {
				wantEnd(t, e, y)
				if w := e.M.Peek(pinAt(e.Who)); w != 0 {
					t.Fatalf("the pin is %d", w)
				}
			}
		}
	}
}

func TestAnEnvThatIsAnotherOneEachTime(t *testing.T) {
	t.Parallel()
	// Who changes the arena midway is answered all the same.
	one, _ := mem.New(1)
	for ahead := range 20 {
		for i := range some(0) {
			for k := range 9 {
				big, small := entered(t, arena(9, 5, 40), 1), entered(t, arena(1, 1, 17), 0)
				o := made(t, big, 2, false)
				made(t, small, 1, true)
				x := some(o.number())[i]
				v := []layout.Env{
					{}, {C: big.C}, {M: big.M}, {C: big.C, M: one}, small, {C: small.C, M: big.M}, {C: big.C, M: small.M}, by(big, 2), by(big, -1),
				}[k]
				a := begun(t, x)
				for range ahead {
					a.Step(big)
				}
				wantEnds(t, v, a, x)
				b := begun(t, x)
				for n := range 300 {
					if b.Step([]layout.Env{v, big, small}[n%3]) {
						break
					}
				}
				wantEnds(t, big, b, x)
			}
		}
	}
}

func TestTheSameStepsTellTheSame(t *testing.T) {
	play := func() ([]told, []uint64) {
		c := newCrowd(t, arena(12, 9, 40))
		x := uint64(3)
		for i := range 6000 {
			who := i * i % 101 % 5
			if who >= 3 {
				c.compact()
				continue
			}
			if !c.busy(who) {
				var y api.Act
				y, x = c.something(x, 9)
				c.begin(who, y)
			}
			c.pick(who)
		}
		c.rest()
		return c.told, words(c.e.M)
	}
	l, w := play()
	for range 4 {
		if k, v := play(); !slices.Equal(k, l) || !slices.Equal(v, w) {
			t.Error("it is told otherwise")
		}
	}
}

func TestStandsOnThoseBelowAlone(t *testing.T) {
	files, err := os.ReadDir(".")
	if err != nil {
		t.Fatal(err)
	}
	below := []string{
		`"footlocker/access"`, `"footlocker/alloc"`, `"footlocker/api"`, `"footlocker/drop"`, `"footlocker/layout"`, `"footlocker/pin"`,
	}
	for _, f := range files {
		name := f.Name()
		if !strings.HasSuffix(name, ".go") || strings.HasSuffix(name, "_test.go") {
			continue
		}
		parsed, err := parser.ParseFile(token.NewFileSet(), name, nil, parser.ImportsOnly)
		if err != nil {
			t.Fatal(err)
		}
		for _, i := range parsed.Imports {
			if !slices.Contains(below, i.Path.Value) {
				t.Errorf("%s imports %s", name, i.Path.Value)
			}
		}
	}
}
