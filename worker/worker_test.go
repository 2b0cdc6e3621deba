package worker_test

import (
	"math"
	"slices"
	"testing"

	"footlocker/api"
	"footlocker/layout"
	"footlocker/shelf"
	"footlocker/worker"
)

// values is numbers that may be laid, and such that may not.
func values() ([]int, []int) {
	return []int{0, 1, 77, 1 << 30, 1 << 32, mostValue - 1, mostValue},
		[]int{math.MinInt, math.MinInt + 1, -1 << 40, -mostValue, -2, -1, mostValue + 1, mostValue + 2, 1 << 41, 1 << 62, math.MaxInt - 1, math.MaxInt}
}

// keys is numbers that may be keys, and such that may not.
func keys() ([]int, []int) {
	return []int{0, 1, 5, 65536, 1 << 29, mostKey - 1, mostKey},
		[]int{math.MinInt, math.MinInt + 1, -1 << 32, -1 << 30, -2, -1, mostKey + 1, mostKey + 2, 1 << 31, 1 << 32, 1<<32 + 5, math.MaxInt - 1, math.MaxInt}
}

// wantMay asks whether a call may be, and that New says the same, where there is a shelf.
func wantMay(t *testing.T, s *shelf.Shelf, c api.Call, may bool) {
	t.Helper()
	if got := worker.Check(c); got != may {
		t.Fatalf("%+v may be: %v", c, got)
	}
	w, e := worker.New(3, []api.Call{c}, s)
	if may != (e == api.OK) || may != (w != nil) || !may && e != api.ErrInput {
		t.Fatalf("%+v: %v, %v", c, w, e)
	}
}

// kept is a shelf with lists, wherever it stands.
func kept(t *testing.T) *shelf.Shelf {
	t.Helper()
	return shelved(t, entered(t, arena(9, 3, 40), 0), 3)
}

func TestKindsThatMayBe(t *testing.T) {
	s := kept(t)
	for kind := -300; kind <= 300; kind++ {
		wantMay(t, s, api.Call{Kind: kind}, kind >= 1 && kind <= 8)
	}
	for _, kind := range []int{math.MinInt, math.MinInt + 1, math.MinInt + 5, math.MinInt + 6, math.MinInt + 8, -1 << 32, -1<<32 + 1, 1 << 16, 1 << 32, 1<<32 + 1, 1<<32 + 6, 1<<32 + 8, math.MaxInt - 1, math.MaxInt} {
		wantMay(t, s, api.Call{Kind: kind}, false)
	}
	if api.CallAlloc != 1 || api.CallFree != 2 || api.CallRead != 3 || api.CallWrite != 4 || api.CallCas != 5 || api.CallHas != 6 || api.CallAdd != 7 || api.CallRemove != 8 || api.MostCalls != 64 {
		t.Error("the kinds are others")
	}
}

func TestValuesAndOlds(t *testing.T) {
	s := kept(t)
	good, bad := values()
	// Acts must have such that may be, whether the kind needs them or not; what is asked of a list has none.
	for kind := 0; kind <= 9; kind++ {
		act, ask := kind >= 1 && kind <= 5, kind >= 6 && kind <= 8
		for _, v := range good {
			for _, old := range good {
				wantMay(t, s, api.Call{Kind: kind, Value: v, Old: old}, act || ask)
			}
			for _, old := range bad {
				wantMay(t, s, api.Call{Kind: kind, Value: v, Old: old}, ask)
				wantMay(t, s, api.Call{Kind: kind, Value: old, Old: v}, ask)
			}
		}
		for _, v := range bad {
			for _, old := range bad {
				wantMay(t, s, api.Call{Kind: kind, Value: v, Old: old}, ask)
			}
		}
	}
}

func TestKeys(t *testing.T) {
	s := kept(t)
	good, bad := keys()
	for kind := 0; kind <= 9; kind++ {
		act, ask := kind >= 1 && kind <= 5, kind >= 6 && kind <= 8
		for _, key := range good {
			wantMay(t, s, api.Call{Kind: kind, Key: key}, act || ask)
		}
		for _, key := range bad {
			wantMay(t, s, api.Call{Kind: kind, Key: key}, act)
		}
	}
}

func TestAllElseMayBe(t *testing.T) {
	// A size, a handle or an index is asked for only when it is done.
	s := kept(t)
	for kind := 0; kind <= 9; kind++ {
		for _, n := range odd() {
			for _, c := range []api.Call{
				{Size: n}, {Index: n}, {Ref: api.Ref{Thread: n}}, {Ref: api.Ref{At: n}}, {Ref: api.Ref{Thread: n, At: n, Raw: uint64(n)}},
				{Size: n, Index: n, Ref: api.Ref{Thread: -1, Raw: uint64(n)}, Value: mostValue, Old: mostValue, Key: mostKey},
			} {
				c.Kind = kind
				wantMay(t, s, c, kind >= 1 && kind <= 8)
			}
		}
	}
}

func TestWhoMayBe(t *testing.T) {
	s := kept(t)
	l := each(from(0, 0))
	for _, me := range append(odd(), -9, -8, 6, 10, 15) {
		w, e := worker.New(me, l, s)
		if may := me >= 0 && me < threads; may != (e == api.OK) || may != (w != nil) || !may && e != api.ErrInput {
			t.Errorf("%d: %v, %v", me, w, e)
		}
		// Also without calls, and with such that may not be.
		if _, e := worker.New(me, nil, nil); (me >= 0 && me < threads) != (e == api.OK) {
			t.Errorf("%d: %v", me, e)
		}
		if w, e := worker.New(me, []api.Call{{}}, s); e != api.ErrInput || w != nil {
			t.Errorf("%d: %v", me, e)
		}
	}
}

func TestHowManyCallsThereMayBe(t *testing.T) {
	s := kept(t)
	for n := range 200 {
		l := make([]api.Call, n)
		for i := range l {
			l[i] = each(from(0, 0))[i%8]
		}
		w, e := worker.New(7, l, s)
		if may := n <= mostCalls; may != (e == api.OK) || may != (w != nil) || !may && e != api.ErrInput {
			t.Errorf("%d calls: %v, %v", n, w, e)
		}
	}
	if w, e := worker.New(0, make([]api.Call, 1<<16), s); e != api.ErrInput || w != nil {
		t.Error(e)
	}
}

func TestOneCallThatMayNotBe(t *testing.T) {
	// Wherever it stands.
	s := kept(t)
	bad := []api.Call{{}, {Kind: 9}, {Kind: -1}, {Kind: 1, Size: 2, Value: -1}, {Kind: 4, Value: mostValue + 1}, {Kind: 5, Old: -1}, {Kind: 6, Key: -1}, {Kind: 7, Key: mostKey + 1}, {Kind: 8, Key: math.MinInt}}
	for _, n := range []int{1, 2, 9, 63, 64} {
		for at := range n {
			for _, x := range bad {
				l := make([]api.Call, n)
				for i := range l {
					l[i] = each(from(0, 0))[i%8]
				}
				if _, e := worker.New(0, l, s); e != api.OK {
					t.Fatal(e)
				}
				l[at] = x
				if w, e := worker.New(0, l, s); e != api.ErrInput || w != nil {
					t.Fatalf("%+v at %d of %d: %v", x, at, n, e)
				}
			}
		}
	}
}

func TestCallsThatAskWhereNoListsAre(t *testing.T) {
	e := entered(t, arena(9, 3, 40), 0)
	none := []*shelf.Shelf{nil, {}, shelved(t, e, 0)}
	for _, s := range none {
		for _, n := range []int{1, 3, 64} {
			l := make([]api.Call, n)
			for i := range l {
				l[i] = each(from(0, 0))[i%5]
			}
			// Calls that ask none need none.
			if w, e := worker.New(0, l, s); e != api.OK || w == nil {
				t.Fatal(e)
			}
			for at := range l {
				for _, x := range []api.Call{has(1), adds(1), removes(1)} {
					was := l[at]
					l[at] = x
					if w, e := worker.New(0, l, s); e != api.ErrInput || w != nil {
						t.Fatalf("%+v at %d of %d: %v", x, at, n, e)
					}
					l[at] = was
				}
			}
		}
		for _, l := range [][]api.Call{nil, {}} {
			if w, e := worker.New(0, l, s); e != api.OK || w == nil {
				t.Fatal(e)
			}
		}
	}
	for lists := 1; lists <= api.MostLists; lists++ {
		s := shelved(t, entered(t, arena(9, 3, 40), 0), lists)
		if w, e := worker.New(0, each(from(0, 0)), s); e != api.OK || w == nil {
			t.Fatal(e)
		}
	}
}

func TestNothingIsDoneTillItSteps(t *testing.T) {
	e := entered(t, arena(9, 3, 40), 0)
	s := shelved(t, e, 2)
	wantNoStep(t, e, func() {
		for kind := -1; kind <= 10; kind++ {
			c := api.Call{Kind: kind, Size: 2}
			worker.Check(c)
			if w, _ := worker.New(0, []api.Call{c}, s); w != nil {
				if w.Ended() || !w.Idle() || len(w.Told()) != 0 || w.Made(0) != 0 {
					t.Fatal("it did not begin")
				}
			}
		}
	})
}

func TestNoCalls(t *testing.T) {
	e := entered(t, arena(9, 3, 40), 1)
	s := shelved(t, e, 2)
	wantNoStep(t, e, func() {
		for _, l := range [][]api.Call{nil, {}} {
			for _, s := range []*shelf.Shelf{s, nil} {
				wantNothing(t, hired(t, 5, l, s), e)
			}
		}
	})
}

// wantNothing asks that a thread has no calls.
func wantNothing(t *testing.T, w *worker.Worker, e layout.Env) {
	t.Helper()
	asked := 0
	for range 5 {
		if !w.Ended() || !w.Idle() || len(w.Told()) != 0 {
			t.Fatalf("ended is %v, idle is %v, told is %v", w.Ended(), w.Idle(), w.Told())
		}
		for _, at := range append(odd(), -1, 0, 1) {
			if w.Made(at) != 0 {
				t.Fatalf("call %d made %#x", at, w.Made(at))
			}
		}
		for _, made := range []func(r api.Ref) uint64{nil, func(r api.Ref) uint64 { asked++; return 7 }} {
			for _, v := range []layout.Env{e, {}, {C: e.C}, {M: e.M}} {
				if w.Step(v, made) {
					t.Fatal("there was something to do")
				}
			}
		}
	}
	if asked > 0 {
		t.Fatal("a handle was asked for")
	}
}

func TestANilOneAndOneThatNobodyMade(t *testing.T) {
	e := entered(t, arena(9, 3, 40), 1)
	wantNoStep(t, e, func() {
		var none *worker.Worker
		wantNothing(t, none, e)
		wantNothing(t, &worker.Worker{}, e)
	})
}

func TestTheChaptersExample(t *testing.T) {
	// Alloc, then Free of what that made: both OK.
	e := entered(t, arena(9, 3, 40), 0)
	l := did(t, e, nil, makes(2), frees(from(0, 0)), frees(from(0, 0)))
	wantCome(t, l, api.Done{Handle: 1 << 16}, api.Done{}, api.Done{E: api.ErrInvalid})
}

func TestEachKindIsWhatTheDocumentSays(t *testing.T) {
	e := entered(t, arena(9, 3, 40), 0)
	s := shelved(t, e, 2)
	o := from(0, 0)
	l := did(t, e, s,
		makes(2), reads(o, 1), writes(o, 1, 5), exchanges(o, 1, 4, 6), exchanges(o, 1, 5, mostValue), reads(o, 1), reads(o, 0),
		reads(o, 2), writes(o, -1, 1), exchanges(o, 2, 0, 1), makes(0), makes(17), makes(-1),
		has(3), adds(3), adds(3), has(3), removes(3), removes(3), has(3),
		frees(o), frees(o), reads(o, 0), writes(o, 0, 1), exchanges(o, 0, 0, 1), reads(raw(0), 0), reads(o, 9))
	invalid, index, size := api.Done{E: api.ErrInvalid}, api.Done{E: api.ErrIndex}, api.Done{E: api.ErrSize}
	wantCome(t, l,
		api.Done{Handle: 1<<16 + 2}, api.Done{}, api.Done{}, api.Done{E: api.ErrOther, Value: 5}, api.Done{Value: 5}, api.Done{Value: mostValue}, api.Done{},
		index, index, index, size, size, size,
		api.Done{}, api.Done{Value: 1}, api.Done{}, api.Done{Value: 1}, api.Done{Value: 1}, api.Done{}, api.Done{},
		api.Done{}, invalid, invalid, invalid, invalid, invalid, invalid)
}

func TestStepsAreThoseOfTheActsAndOfTheLists(t *testing.T) {
	t.Parallel()
	// What is told, and made, is asked behind each of them.
	for me := range threads {
		for lists := 1; lists <= 8; lists += 7 {
			for shift := range 8 {
				c := arena(14, 4, 40)
				c.Threads = threads
				var l []api.Call
				for i := range 24 {
					l = append(l, each(from(me, i/2))[(i+shift)%8])
				}
				p := newPair(t, c, lists, me, l)
				for p.wantSame(); p.step(); {
				}
				for range 4 {
					if p.step() {
						t.Fatal("all calls were done")
					}
				}
				if !slices.Equal(words(p.e.M), words(p.twin)) || len(p.one.Told()) != len(l) {
					t.Fatalf("%d calls were told", len(p.one.Told()))
				}
			}
		}
	}
}

func TestStepTellsWhetherThereWasSomethingToDo(t *testing.T) {
	e := entered(t, arena(9, 3, 40), 2)
	s := shelved(t, e, 1)
	w := hired(t, 2, each(from(2, 0)), s)
	for !w.Ended() {
		now, n := e.Now(), len(w.Told())
		if !w.Step(e, own(2, w)) {
			t.Fatal("there was something to do")
		}
		if e.Now() > now+1 || len(w.Told()) > n+1 || e.Now() > now && e.M.Last().Who != 2 {
			t.Fatalf("%d steps, %d calls, %v", e.Now()-now, len(w.Told())-n, e.M.Last())
		}
	}
	wantNoStep(t, e, func() {
		for range 9 {
			if w.Step(e, own(2, w)) || !w.Ended() || !w.Idle() || len(w.Told()) != 8 {
				t.Fatal("nothing was left")
			}
		}
	})
}

func TestACallIsAtHandAsSoonAsItIsDone(t *testing.T) {
	// Behind the step that ends it, it is told, and the next one begins with the step behind that.
	e := entered(t, arena(9, 3, 40), 0)
	w := hired(t, 0, []api.Call{makes(2), makes(3)}, nil)
	for n := 1; n <= 2; n++ {
		if !w.Idle() || w.Ended() {
			t.Fatal("none is under way")
		}
		for first := true; first || !w.Idle(); first = false {
			if len(w.Told()) != n-1 || w.Made(n-1) != 0 {
				t.Fatal("it is not done")
			}
			w.Step(e, nil)
		}
		if len(w.Told()) != n || w.Made(n-1) != uint64(1<<16+n-1) {
			t.Fatalf("told is %+v", w.Told())
		}
	}
	if !w.Ended() {
		t.Fatal("both are done")
	}
}

func TestBeganAndEnded(t *testing.T) {
	// Others do steps ahead of a call, within it and behind it.
	e := entered(t, arena(12, 4, 40), 1)
	s := shelved(t, e, 2)
	l := each(from(1, 0))
	w := hired(t, 1, l, s)
	var want []int
	for i := range l {
		for range i {
			by(e, 0).Load(layout.Epoch())
		}
		want = append(want, e.Now())
		for first := true; first || !w.Idle(); first = false {
			w.Step(e, own(1, w))
			if !w.Idle() && i%2 == 0 {
				by(e, 2).Load(layout.Epoch())
			}
		}
		want = append(want, e.Now())
	}
	for i, x := range w.Told() {
		if x.Began != want[2*i] || x.Ended != want[2*i+1] {
			t.Errorf("call %d: %d to %d, not %d to %d", i, x.Began, x.Ended, want[2*i], want[2*i+1])
		}
		if x.Done.Stamp <= x.Began || x.Done.Stamp > x.Ended {
			t.Errorf("%+v took effect while it was not under way", x)
		}
		if x.Thread != 1 || x.At != i || x.Call != l[i] {
			t.Errorf("call %d is told as %+v", i, x)
		}
	}
}

func TestAloneOneBeginsWhereTheOtherEnded(t *testing.T) {
	e := entered(t, arena(12, 4, 40), 0)
	s := shelved(t, e, 2)
	now := e.Now()
	for i, x := range did(t, e, s, slices.Concat(each(from(0, 0)), each(from(0, 8)))...) {
		if x.Began != now || x.Ended <= now {
			t.Fatalf("call %d: %d to %d, behind %d", i, x.Began, x.Ended, now)
		}
		now = x.Ended
	}
	if now != e.Now() {
		t.Fatalf("the last one ended at %d, not %d", now, e.Now())
	}
}

func TestHandlesToWhichRefsRefer(t *testing.T) {
	// To calls that are done, that are not yet, to itself, to such that made none, or that failed, to places that are none; to a handle that was let go.
	e := entered(t, arena(3, 3, 40), 0)
	s := shelved(t, e, 1)
	l := []api.Call{
		reads(from(0, 0), 0), // itself
		reads(from(0, 2), 0), // not yet
		makes(1),
		reads(from(0, 2), 0),
		adds(4),
		reads(from(0, 4), 0), // made none that calls know
		makes(17),
		reads(from(0, 6), 0), // failed
		makes(1),
		reads(from(0, 8), 0), // no slot is left
		reads(from(0, -1), 0), reads(from(0, 99), 0), reads(from(0, math.MinInt), 0), reads(from(0, math.MaxInt), 0),
		reads(from(1, 2), 0), reads(from(math.MaxInt, 2), 0), // nobody
		frees(from(0, 2)),
		reads(from(0, 2), 0),
		reads(raw(1<<16+1), 0), writes(raw(5), 0, 1), frees(raw(0)), frees(raw(1<<64 - 1)),
	}
	one := uint64(1<<16 + 1)
	want := []uint64{0, 0, 0, one, 0, 0, 0, 0, 0, 0, 0, 0, 0, 0, 0, 0, one, one, one, 5, 0, 1<<64 - 1}
	for i, x := range did(t, e, s, l...) {
		if x.Call.Kind >= 2 && x.Call.Kind <= 5 && x.Handle != want[i] {
			t.Errorf("call %d is of %#x, not %#x", i, x.Handle, want[i])
		}
		if ok := i == 2 || i == 3 || i == 4 || i == 16; ok != (x.Done.E == api.OK) {
			t.Errorf("call %d came to %+v", i, x.Done)
		}
	}
}

func TestHandlesAreToldByWhoeverIsAsked(t *testing.T) {
	// Each call's Ref as it is, when the call begins, and not again; a Thread below 0 is the number itself, whatever would be told.
	e := entered(t, arena(9, 3, 40), 0)
	d := did(t, e, nil, makes(2))[0].Done
	for _, c := range []api.Call{frees(from(3, 7)), reads(from(0, 0), 0), writes(api.Ref{Thread: 5, At: -4, Raw: 99}, 1, 3), exchanges(from(math.MaxInt, math.MinInt), 0, 0, 1)} {
		v := entered(t, arena(9, 3, 40), 0)
		did(t, v, nil, makes(2))
		w := hired(t, 0, []api.Call{c}, nil)
		var asked []api.Ref
		told := run(t, v, w, func(r api.Ref) uint64 {
			asked = append(asked, r)
			return d.Handle
		})
		if !slices.Equal(asked, []api.Ref{c.Ref}) {
			t.Errorf("asked was for %+v", asked)
		}
		if told[0].Done.E != api.OK || told[0].Handle != d.Handle {
			t.Errorf("%+v", told)
		}
	}
	for _, thread := range []int{-1, -2, -99, math.MinInt} {
		for _, h := range []uint64{0, 5, d.Handle, d.Handle + 1<<16, 1<<64 - 1} {
			w := hired(t, 0, []api.Call{reads(api.Ref{Thread: thread, At: 3, Raw: h}, 0)}, nil)
			told := run(t, e, w, func(r api.Ref) uint64 { return d.Handle ^ 1 })
			if told[0].Handle != h || (told[0].Done.E == api.OK) != (h == d.Handle) {
				t.Errorf("%#x: %+v", h, told)
			}
		}
	}
}

func TestAHandleIsWhatWasMadeWhenTheCallBegan(t *testing.T) {
	// What is made meanwhile by another thread comes too late.
	e := entered(t, arena(9, 3, 40), 0)
	a, b := hired(t, 0, []api.Call{makes(2), makes(2)}, nil), hired(t, 1, []api.Call{reads(from(0, 0), 0), reads(from(0, 0), 0)}, nil)
	b.Step(by(e, 1), own(0, a))
	run(t, e, a, nil)
	told := run(t, by(e, 1), b, own(0, a))
	if told[0].Handle != 0 || told[0].Done.E != api.ErrInvalid {
		t.Errorf("%+v", told[0])
	}
	if told[1].Handle != a.Made(0) || told[1].Done.E != api.OK {
		t.Errorf("%+v", told[1])
	}
}

func TestMade(t *testing.T) {
	e := entered(t, arena(4, 3, 40), 0)
	s := shelved(t, e, 1)
	w := hired(t, 0, []api.Call{makes(2), frees(from(0, 0)), makes(16), adds(3), makes(17), reads(from(0, 2), 1), makes(1), makes(1)}, s)
	run(t, e, w, own(0, w))
	want := []uint64{1<<16 + 1, 0, 2<<16 + 1, 0, 0, 0, 1<<16 + 3, 0}
	for i := -70; i < 140; i++ {
		h := uint64(0)
		if i >= 0 && i < len(want) {
			h = want[i]
		}
		if got := w.Made(i); got != h {
			t.Errorf("call %d made %#x, not %#x", i, got, h)
		}
	}
	for _, at := range []int{math.MinInt, math.MinInt + 2, -1 << 32, 1 << 32, math.MaxInt} {
		if w.Made(at) != 0 {
			t.Errorf("call %d made %#x", at, w.Made(at))
		}
	}
	if e := w.Told()[7].Done.E; e != api.ErrHandles {
		t.Error(e)
	}
}

func TestAsMuchAsThereMayBe(t *testing.T) {
	// Each of as many calls as there may be is done, once, in their order.
	e := entered(t, arena(100, 9, 60), 0)
	s := shelved(t, e, 2)
	var l []api.Call
	for i := range mostCalls {
		l = append(l, []api.Call{makes(1 + i%16), adds(i), writes(from(0, i-2), 0, i), has(i - 2)}[i%4])
	}
	for i, x := range did(t, e, s, l...) {
		if x.At != i || x.Thread != 0 || x.Call != l[i] || x.Done.E != api.OK {
			t.Fatalf("call %d is told as %+v", i, x)
		}
		if i%4 == 3 && x.Done.Value != 1 {
			t.Fatalf("%+v", x)
		}
	}
}
