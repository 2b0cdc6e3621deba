package worker_test

import (
	"go/parser"
	"go/token"
	"math"
	"os"
	"slices"
	"strings"
	"testing"

	"footlocker/api"
	"footlocker/layout"
	"footlocker/mem"
	"footlocker/shelf"
)

// odd is numbers of all kinds, most of which may not be.
func odd() []int {
	return []int{math.MinInt, math.MinInt + 1, -1 << 32, -65, -6, -5, -4, -3, -2, -1, 0, 1, 2, 3, 4, 5, 7, 8, 9, 16, 17, 18, 63, 64, 65, 256, 257, 1 << 16, 1<<16 + 2, 1 << 20, 1 << 32, 1<<32 + 2, math.MaxInt / 3, math.MaxInt/2 - 4, math.MaxInt / 2, math.MaxInt - 7, math.MaxInt - 1, math.MaxInt}
}

// maimed is arenas of which one or two things are such a number.
func maimed(n int) []api.Config {
	l := make([]api.Config, 10)
	for i := range l {
		l[i] = arena(20, 4, 60)
	}
	l[0].Threads = n
	l[1].Slots = n
	l[2].Chunks = n
	l[3].Words = n
	l[4].Gens = n
	l[5].Sparse = n
	l[6].Tries = n
	l[7].Threads, l[7].Chunks = n, n
	l[8].Slots, l[8].Words = n, n
	l[9].Chunks, l[9].Words = n, n
	return append(l, api.Config{}, api.Config{Threads: n}, api.Config{Chunks: n, Words: n})
}

// copied is a memory of the same words, or of so many of them.
func copied(l []uint64, n int) *mem.Mem {
	m, _ := mem.New(n)
	for a := range min(n, len(l)) {
		m.Store(a, l[a])
	}
	return m
}

// wantEnd asks that a thread that is alone ends its calls wherever it works, by one step at most at a time, and tells each of them.
func wantEnd(t *testing.T, e layout.Env, s *shelf.Shelf, l []api.Call, made func(r api.Ref) uint64) []api.Told {
	t.Helper()
	told := wantSteps(t, e, s, l, made)
	if len(told) != len(l) {
		t.Fatalf("%v: %d calls are told", e.C, len(told))
	}
	return told
}

// wantSteps asks the same, but not that the calls end: lists of a memory that nobody laid so may have none.
func wantSteps(t *testing.T, e layout.Env, s *shelf.Shelf, l []api.Call, made func(r api.Ref) uint64) []api.Told {
	t.Helper()
	w := hired(t, 3, l, s)
	for range 700 {
		now, ended := e.Now(), w.Ended()
		if did := w.Step(e, made); did == ended || e.Now() > now+1 || ended && e.Now() != now {
			t.Fatalf("%v: %v, %d steps, %d calls are told", e.C, did, e.Now()-now, len(w.Told()))
		}
	}
	told := w.Told()
	for at, x := range told {
		if x.Thread != 3 || x.At != at || x.Call != l[at] || x.Began > x.Ended || x.Done.Handle != w.Made(at) {
			t.Fatalf("%v: call %d is told as %+v", e.C, at, x)
		}
	}
	return told
}

func TestArenasThatMayNotBe(t *testing.T) {
	t.Parallel()
	e := entered(t, arena(20, 4, 60), 0)
	s := shelved(t, e, 2)
	o := did(t, e, s, makes(2), adds(2))[0].Done.Handle
	was := words(e.M)
	for _, n := range odd() {
		for _, c := range maimed(n) {
			for _, who := range []int{0, 2, n} {
				v := layout.Env{C: c, M: copied(was, len(was)), Who: who}
				if layout.Check(c) {
					wantSteps(t, v, s, each(raw(o)), nil)
					continue
				}
				for _, x := range wantEnd(t, v, s, each(raw(o)), nil) {
					if x.Done.E == api.OK {
						t.Fatalf("%v may not be: %+v", c, x)
					}
				}
			}
			wantSteps(t, layout.Env{C: c, M: copied(nil, 1), Who: n}, s, each(raw(o)), nil)
		}
	}
}

func TestNoMemory(t *testing.T) {
	s := kept(t)
	for _, n := range odd() {
		for _, c := range append(maimed(n), arena(20, 4, 60)) {
			for _, m := range []*mem.Mem{nil, {}} {
				for _, x := range wantEnd(t, layout.Env{C: c, M: m, Who: n}, s, each(raw(1<<16)), nil) {
					if x.Done.E == api.OK || x.Began != 0 || x.Ended != 0 {
						t.Fatalf("%+v", x)
					}
				}
			}
		}
	}
}

func TestMemoriesOfEachLength(t *testing.T) {
	t.Parallel()
	e := entered(t, arena(9, 3, 20), 0)
	s := shelved(t, e, 1)
	o := did(t, e, s, makes(2), adds(2))[0].Done.Handle
	was := words(e.M)
	for n := 1; n <= len(was)+3; n++ {
		wantSteps(t, layout.Env{C: e.C, M: copied(was, n), Who: 1}, s, each(raw(o)), nil)
		wantSteps(t, layout.Env{C: e.C, M: copied(nil, n), Who: 1}, s, each(raw(o)), nil)
	}
}

func TestAnyWords(t *testing.T) {
	t.Parallel()
	x := uint64(5)
	s := kept(t)
	for n := range 2000 {
		c := arena(1+n%19, 1+n%7, 17+n%40)
		l := make([]uint64, layout.Len(c))
		for a := range l {
			x = x*6364136223846793005 + 1442695040888963407
			l[a] = x >> (x >> 58)
		}
		e := layout.Env{C: c, M: copied(l, len(l)), Who: n % 5}
		wantSteps(t, e, s, each(raw(l[n%len(l)])), nil)
	}
}

func TestNobodyTellsHandles(t *testing.T) {
	// Or whoever does so panics: no handle is told, and what needs none is done.
	for _, made := range []func(r api.Ref) uint64{
		nil,
		func(r api.Ref) uint64 { panic("no") },
		func(r api.Ref) uint64 { panic(nil) },
		func(r api.Ref) uint64 { return []uint64{}[r.At] },
	} {
		e := entered(t, arena(9, 3, 40), 1)
		s := shelved(t, e, 1)
		told := wantEnd(t, e, s, append(each(from(3, 0)), frees(raw(1<<16+1))), made)
		invalid := api.Done{E: api.ErrInvalid}
		wantCome(t, told, api.Done{Handle: 1<<16 + 1}, invalid, invalid, invalid, invalid, api.Done{}, api.Done{Value: 1}, api.Done{Value: 1}, api.Done{})
		for _, x := range told[1:5] {
			if x.Handle != 0 {
				t.Fatalf("%+v", x)
			}
		}
	}
}

func TestWhoeverTellsHandlesMayAskTheThread(t *testing.T) {
	// What it is asked then is what it would be asked ahead of the step.
	e := entered(t, arena(9, 3, 40), 3)
	s := shelved(t, e, 1)
	l := each(from(3, 0))
	w := hired(t, 3, l, s)
	n := 0
	for w.Step(e, func(r api.Ref) uint64 {
		if w.Ended() || !w.Idle() || len(w.Told()) != n || w.Made(n) != 0 {
			t.Fatalf("call %d: ended is %v, idle is %v, told is %v", n, w.Ended(), w.Idle(), w.Told())
		}
		return w.Made(r.At)
	}) {
		n = len(w.Told())
	}
	if n != len(l) {
		t.Fatalf("%d calls were told", n)
	}
}

func TestWhatIsHandedInIsNotChangedAndMayBeChangedLater(t *testing.T) {
	e := entered(t, arena(9, 3, 40), 3)
	s := shelved(t, e, 1)
	heads := s.Heads()
	l := each(from(3, 0))
	was := slices.Clone(l)
	w := hired(t, 3, l, s)
	l[0] = makes(17)
	for i := range l[1:] {
		l[1+i] = frees(raw(0))
	}
	l = append(l[:0], api.Call{Kind: 99})
	told := run(t, e, w, own(3, w))
	for at, x := range told {
		if x.Call != was[at] || x.Done.E != api.OK && x.Call.Kind != 3 && x.Call.Kind != 4 && x.Call.Kind != 5 {
			t.Fatalf("call %d is told as %+v", at, x)
		}
	}
	if len(told) != len(was) || len(l) != 1 {
		t.Fatalf("%d calls were told", len(told))
	}
	if !slices.Equal(s.Heads(), heads) {
		t.Fatal("the lists begin elsewhere")
	}
	// Neither New, nor a step, changes the list of calls itself.
	keep := slices.Clone(was)
	v := hired(t, 3, was, s)
	run(t, e, v, own(3, v))
	if !slices.Equal(was, keep) {
		t.Fatalf("the calls are %+v", was)
	}
}

func TestRoomBehindTheCallsIsLetBe(t *testing.T) {
	// Calls that are a part of a longer list.
	e := entered(t, arena(9, 3, 40), 0)
	long := []api.Call{makes(2), makes(3), {Kind: 99}, {Kind: 98}}
	w := hired(t, 0, long[:2], nil)
	run(t, e, w, nil)
	if long[2] != (api.Call{Kind: 99}) || long[3] != (api.Call{Kind: 98}) || len(w.Told()) != 2 {
		t.Fatal(long)
	}
}

func TestWhatIsToldIsTheCallersOwn(t *testing.T) {
	e := entered(t, arena(9, 3, 40), 0)
	s := shelved(t, e, 1)
	w := hired(t, 0, each(from(0, 0)), s)
	for w.Step(e, own(0, w)) {
		told := w.Told()
		was := slices.Clone(told)
		for i := range told {
			told[i] = api.Told{Done: api.Done{Handle: 99}}
		}
		told = append(told, api.Told{At: 77})
		if !slices.Equal(w.Told(), was) {
			t.Fatalf("told is %+v, not %+v", w.Told(), was)
		}
		// Nor does what is added to one answer reach another one.
		a, b := w.Told(), w.Told()
		a, b = append(a, api.Told{At: 1}), append(b, api.Told{At: 2})
		if a[len(was)].At != 1 || b[len(was)].At != 2 || told[len(was)].At != 77 {
			t.Fatal(a, b)
		}
	}
	if w.Made(0) != 1<<16+1 || len(w.Told()) != 8 {
		t.Fatalf("told is %+v", w.Told())
	}
}

func TestEachOneIsItsOwn(t *testing.T) {
	// Two of the same calls, in two arenas, know nothing of each other.
	l := []api.Call{makes(2), writes(from(0, 0), 0, 4), reads(from(0, 0), 0)}
	a, b := hired(t, 0, l, nil), hired(t, 0, l, nil)
	e, f := entered(t, arena(9, 3, 40), 0), entered(t, arena(9, 3, 40), 0)
	did(t, f, nil, makes(1))
	for a.Step(e, own(0, a)) {
		if len(b.Told()) != 0 || !b.Idle() || b.Ended() {
			t.Fatalf("told is %+v", b.Told())
		}
	}
	run(t, f, b, own(0, b))
	if a.Made(0) != 1<<16 || b.Made(0) != 1<<16+1 {
		t.Fatal(a.Made(0), b.Made(0))
	}
}

func TestAThreadKeepsNoArena(t *testing.T) {
	// Its steps are done where Step says, by whoever is said there.
	e := entered(t, arena(9, 3, 40), 0)
	w := hired(t, 0, each(from(0, 0))[:5], nil)
	for n := 0; !w.Ended(); n++ {
		if w.Step(by(e, n%2), own(0, w)); e.M.Last().Who != n%2 {
			t.Fatalf("it was done by %d", e.M.Last().Who)
		}
	}
	if x := w.Told()[4]; x.Thread != 0 {
		t.Fatalf("%+v", x)
	}
}

func TestTheSameCallsTellTheSame(t *testing.T) {
	play := func() ([]api.Told, []uint64) {
		a := arena(20, 6, 40)
		l, x := any(9, 3, 40, 5, 6, 20)
		c := newCrowd(t, a, 3, l)
		c.picks(x, 3000, 5)
		return c.rest(), words(c.e.M)
	}
	l, w := play()
	for range 4 {
		if k, v := play(); !slices.Equal(k, l) || !slices.Equal(v, w) {
			t.Error("it is told otherwise")
		}
	}
}

func TestStandsOnThoseBelowAlone(t *testing.T) {
	files, err := os.ReadDir(".")
	if err != nil {
		t.Fatal(err)
	}
	below := []string{`"footlocker/act"`, `"footlocker/api"`, `"footlocker/layout"`, `"footlocker/list"`, `"footlocker/queue"`, `"footlocker/shelf"`, `"slices"`}
	for _, f := range files {
		name := f.Name()
		if !strings.HasSuffix(name, ".go") || strings.HasSuffix(name, "_test.go") {
			continue
		}
		parsed, err := parser.ParseFile(token.NewFileSet(), name, nil, parser.ImportsOnly)
		if err != nil {
			t.Fatal(err)
		}
		for _, i := range parsed.Imports {
			if !slices.Contains(below, i.Path.Value) {
				t.Errorf("%s imports %s", name, i.Path.Value)
			}
		}
	}
}
