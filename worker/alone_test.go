package worker_test

import (
	"slices"
	"testing"

	"footlocker/api"
	"footlocker/compact"
	"footlocker/layout"
	"footlocker/shelf"
	"footlocker/worker"
)

// alone is threads that work in an arena one behind the other, each till its calls are done, and the plain store that does the same calls.
type alone struct {
	t     *testing.T
	e     layout.Env
	s     *shelf.Shelf
	store *store
	made  []uint64           // all handles that were told
	k     *compact.Compactor // that works meanwhile; nil: none does
	each  int                // below how many of its steps to one of a thread; as many each time could go on in step with a thread that pins the epoch
	x     uint64
}

func newAlone(t *testing.T, c api.Config, lists int) *alone {
	t.Helper()
	e := entered(t, c, 0)
	return &alone{t: t, e: e, s: shelved(t, e, lists), store: newStore()}
}

// do does a thread's calls: what was told, each being what the plain store tells.
func (a *alone) do(me int, l []api.Call) []api.Told {
	a.t.Helper()
	w := hired(a.t, me, l, a.s)
	for most := 99999; w.Step(by(a.e, me), own(me, w)); most-- {
		if most < 0 {
			a.t.Fatal("it does not end")
		}
		a.compacts()
	}
	told := w.Told()
	if len(told) != len(l) {
		a.t.Fatalf("%d calls were told, of %d", len(told), len(l))
	}
	for at, x := range told {
		a.wantTold(x, me, at, l[at], w)
		if x.Done.Handle != 0 {
			a.made = append(a.made, x.Done.Handle)
		}
	}
	wantStore(a.t, a.e, a.s, a.store)
	return told
}

// compacts lets the compactor, if there is one, do some steps.
func (a *alone) compacts() {
	if a.k == nil {
		return
	}
	var n int
	n, a.x = mixed(a.x, a.each)
	for range n {
		a.k.Step(by(a.e, api.Compactor))
	}
}

// wantTold asks that a call is told as what it was, with its handle, and what the plain store tells.
func (a *alone) wantTold(x api.Told, me, at int, c api.Call, w *worker.Worker) {
	a.t.Helper()
	if x.Thread != me || x.At != at || x.Call != c || x.Done.Stamp <= x.Began || x.Done.Stamp >= x.Ended {
		a.t.Fatalf("call %d of thread %d, %+v, is told as %+v", at, me, c, x)
	}
	if c.Kind >= 2 && c.Kind <= 5 {
		h := c.Ref.Raw
		if c.Ref.Thread >= 0 {
			// What is made behind it, or by itself, is not done when it begins.
			if h = 0; c.Ref.Thread == me && c.Ref.At < at {
				h = w.Made(c.Ref.At)
			}
		}
		if x.Handle != h {
			a.t.Fatalf("%+v is of %#x, not %#x", c, x.Handle, h)
		}
	}
	d := x.Done
	d.Stamp = 0
	if want := a.store.once(x); d != want {
		a.t.Fatalf("%+v came to %+v, not %+v", x, d, want)
	}
}

// ref is a reference to something: most often to what one of the thread's own calls made, else a handle itself, be it of an object that lives, of one that was let go, of a list's node, or any number.
func (a *alone) ref(x uint64, me, at int) (api.Ref, uint64) {
	var how, which int
	how, x = mixed(x, 12)
	which, x = mixed(x, 8)
	if how < 6 || len(a.made) == 0 {
		return from(me, at-which), x
	}
	switch how {
	case 6, 7, 8:
		return raw(a.made[max(0, len(a.made)-1-which)]), x
	case 9:
		return raw(a.made[len(a.made)-1] + 1<<16*uint64(which)), x
	case 10:
		return raw(a.aNode(which)), x
	}
	return raw(x >> (x >> 58)), x
}

// aNode is the handle of a node of the lists; 0: there is none.
func (a *alone) aNode(which int) uint64 {
	if a.s.Lists() == 0 {
		return 0
	}
	l := nodes(a.t, a.e, a.s.Heads()[which%a.s.Lists()])
	return l[which%len(l)].handle
}

// call is a call of any kind.
func (a *alone) call(x uint64, me, at, sizes, keys int) (api.Call, uint64) {
	var kind, size, k, v, key int
	var r api.Ref
	kind, x = mixed(x, 16)
	size, x = mixed(x, sizes)
	k, x = mixed(x, 5)
	v, x = mixed(x, 3)
	key, x = mixed(x, keys)
	r, x = a.ref(x, me, at)
	switch {
	case kind < 4:
		return makes(size), x
	case kind < 6:
		return frees(r), x
	case kind < 8:
		return reads(r, k-1), x
	case kind < 10:
		return writes(r, k-1, v), x
	case kind < 12 || a.s.Lists() == 0:
		return exchanges(r, k-1, v, (v+1)%3), x
	case kind < 13:
		return has(key), x
	case kind < 15:
		return adds(key), x
	}
	return removes(key), x
}

// calls is so many of them.
func (a *alone) calls(x uint64, me, n, sizes, keys int) ([]api.Call, uint64) {
	l := make([]api.Call, n)
	for at := range l {
		l[at], x = a.call(x, me, at, sizes, keys)
	}
	return l, x
}

func TestOneBehindTheOther(t *testing.T) {
	t.Parallel()
	// With room for all and without, with a compactor meanwhile and without, with lists and without.
	counts := map[api.Errno]int{}
	kinds := map[int]int{}
	for seed := range 120 {
		lists := seed % 9
		c := arena(lists+1+seed*5%23, 1+seed*3%9, 24+seed*7%90)
		c.Threads = 1 + seed/3%threads
		a := newAlone(t, c, lists)
		if seed%2 == 0 {
			a.k, a.each = compact.New(), 2+seed%9
		}
		x := uint64(seed)
		for n := range 12 {
			var l []api.Call
			me := (seed + n) % c.Threads
			l, x = a.calls(x, me, (seed*13+n*7)%(mostCalls+1), 2+seed%17, 2+seed%19)
			for _, y := range a.do(me, l) {
				counts[y.Done.E]++
				if y.Done.E == api.OK {
					kinds[y.Call.Kind]++
				}
			}
		}
	}
	for _, e := range []api.Errno{api.OK, api.ErrSize, api.ErrHandles, api.ErrMemory, api.ErrInvalid, api.ErrIndex, api.ErrOther} {
		if counts[e] < 100 {
			t.Errorf("%v was told %d times", e, counts[e])
		}
	}
	for kind := 1; kind <= 8; kind++ {
		if kinds[kind] < 100 {
			t.Errorf("kind %d was done %d times", kind, kinds[kind])
		}
	}
}

func TestCallsCantReachNodesOfTheLists(t *testing.T) {
	// Whatever is called of them, they are as they were.
	a := newAlone(t, arena(20, 4, 60), 3)
	var l []api.Call
	for key := range 9 {
		l = append(l, adds(key))
	}
	a.do(1, l)
	was := words(a.e.M)
	for _, head := range a.s.Heads() {
		for _, n := range nodes(t, a.e, head) {
			for _, x := range a.do(2, each(raw(n.handle))[1:5]) {
				if x.Done.E != api.ErrInvalid || x.Handle != n.handle {
					t.Fatalf("%+v", x)
				}
			}
		}
	}
	if !slices.Equal(words(a.e.M), was) {
		t.Fatal("the words are others")
	}
	for key := range 9 {
		if d := a.do(0, []api.Call{has(key)})[0].Done; d.Value != 1 {
			t.Fatalf("key %d: %+v", key, d)
		}
	}
}

func TestAHandleThatWasLetGo(t *testing.T) {
	// Though its slot is used again, it is told as such, and changes nothing.
	a := newAlone(t, arena(1, 2, 40), 0)
	for range 12 {
		l := a.do(0, []api.Call{
			makes(2), writes(from(0, 0), 1, 5), frees(from(0, 0)),
			makes(2), writes(from(0, 3), 1, 6),
			reads(from(0, 0), 1), writes(from(0, 0), 1, 7), exchanges(from(0, 0), 1, 6, 8), frees(from(0, 0)),
			reads(from(0, 3), 1), frees(from(0, 3)),
		})
		for _, x := range l[5:9] {
			if x.Done.E != api.ErrInvalid || x.Handle != l[0].Done.Handle {
				t.Fatalf("%+v", x)
			}
		}
		if l[9].Done.Value != 6 || l[9].Done.E != api.OK || l[10].Done.E != api.OK {
			t.Fatalf("%+v", l[9:])
		}
	}
}

func TestAKeyComesInAndGoesOnce(t *testing.T) {
	for lists := 1; lists <= api.MostLists; lists++ {
		a := newAlone(t, arena(20, 4, 60), lists)
		for _, key := range []int{0, 1, 2, 65536, mostKey - 1, mostKey} {
			l := a.do(key%3, []api.Call{has(key), removes(key), adds(key), adds(key), has(key), removes(key), removes(key), has(key), adds(key)})
			for i, want := range []int{0, 0, 1, 0, 1, 1, 0, 0, 1} {
				if d := l[i].Done; d.Value != want || d.E != api.OK {
					t.Fatalf("%d lists, key %d: call %d came to %+v", lists, key, i, d)
				}
			}
		}
		if len(a.store.keys) != 6 {
			t.Fatal(a.store.keys)
		}
	}
}

func TestOneThreadIsToldTheSameWithACompactor(t *testing.T) {
	t.Parallel()
	// There is room enough without one.
	for seed := range 30 {
		play := func(each int) []api.Done {
			c := arena(120, 60, 120)
			c.Sparse = 900
			a := newAlone(t, c, 1+seed%4)
			if each > 0 {
				a.k, a.each = compact.New(), each
			}
			var l []api.Call
			var d []api.Done
			x := uint64(seed)
			for range 4 {
				l, x = a.calls(x, 0, mostCalls, 6, 12)
				d = append(d, come(a.do(0, l))...)
			}
			return d
		}
		without := play(0)
		for each := 2; each <= 16; each += 3 + seed%3 {
			if with := play(each); !slices.Equal(with, without) {
				t.Fatalf("%+v is told, and without one %+v", with, without)
			}
		}
	}
}
