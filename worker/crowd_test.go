package worker_test

import (
	"cmp"
	"slices"
	"testing"

	"footlocker/api"
	"footlocker/compact"
	"footlocker/layout"
	"footlocker/shelf"
	"footlocker/worker"
)

// crowd is threads with calls in one arena, and a compactor.
type crowd struct {
	t     *testing.T
	e     layout.Env
	s     *shelf.Shelf
	l     [][]api.Call
	seats []*worker.Worker
	told  []int // how many calls each of them was told
	k     *compact.Compactor
}

func newCrowd(t *testing.T, c api.Config, lists int, l [][]api.Call) *crowd {
	t.Helper()
	e := entered(t, c, 0)
	w := &crowd{t: t, e: e, s: shelved(t, e, lists), l: l, told: make([]int, len(l)), k: compact.New()}
	for me := range l {
		w.seats = append(w.seats, hired(t, me, l[me], w.s))
	}
	return w
}

// made tells what a call of one of the threads made.
func (c *crowd) made(r api.Ref) uint64 {
	if r.Thread >= len(c.seats) {
		return 0
	}
	return c.seats[r.Thread].Made(r.At)
}

// pick lets a thread do a step, of one word at most; one who is none of them: the compactor.
func (c *crowd) pick(who int) bool {
	c.t.Helper()
	if who >= len(c.seats) {
		c.k.Step(by(c.e, api.Compactor))
		return true
	}
	w := c.seats[who]
	now, ended := c.e.Now(), w.Ended()
	did := w.Step(by(c.e, who), c.made)
	if c.e.Now() > now+1 || did == ended || !did && c.e.Now() != now || c.e.Now() > now && c.e.M.Last().Who != who {
		c.t.Fatalf("thread %d: %v, %d steps, the last one %v", who, did, c.e.Now()-now, c.e.M.Last())
	}
	if did && w.Idle() {
		c.told[who]++
	}
	if did && w.Idle() && len(w.Told()) != c.told[who] || w.Ended() != (c.told[who] == len(c.l[who])) {
		c.t.Fatalf("thread %d: ended is %v, %d calls are told, not %d", who, w.Ended(), len(w.Told()), c.told[who])
	}
	return did
}

// picks lets whoever is picked by mixed numbers do a step, so many times.
func (c *crowd) picks(x uint64, n, all int) uint64 {
	c.t.Helper()
	for range n {
		var who int
		who, x = mixed(x, all)
		c.pick(who)
	}
	return x
}

// rest lets all threads end their calls, in turn; then what was told is what the plain store tells that did each at its step.
func (c *crowd) rest() []api.Told {
	c.t.Helper()
	most := 99999
	for who := range c.seats {
		for c.pick(who) {
			if most--; most < 0 {
				c.t.Fatal("they do not end")
			}
		}
	}
	var all []api.Told
	for me, w := range c.seats {
		l := w.Told()
		c.wantInOrder(me, l)
		all = append(all, l...)
	}
	slices.SortStableFunc(all, func(a, b api.Told) int { return cmp.Compare(a.Done.Stamp, b.Done.Stamp) })
	store := newStore()
	for _, x := range all {
		d := x.Done
		d.Stamp = 0
		if want := store.once(x); d != want {
			c.t.Fatalf("%+v was told, and not %+v, of all of these: %+v", x, want, all)
		}
	}
	wantStore(c.t, c.e, c.s, store)
	return all
}

// wantInOrder asks that a thread's calls are told in their order, none of them under way ahead of another one's end, each taking effect while it was.
func (c *crowd) wantInOrder(me int, l []api.Told) {
	c.t.Helper()
	if len(l) != len(c.l[me]) {
		c.t.Fatalf("thread %d: %d calls are told, of %d", me, len(l), len(c.l[me]))
	}
	now := 0
	for at, x := range l {
		if x.Thread != me || x.At != at || x.Call != c.l[me][at] {
			c.t.Fatalf("call %d of thread %d, %+v, is told as %+v", at, me, c.l[me][at], x)
		}
		if x.Began < now || x.Done.Stamp <= x.Began || x.Done.Stamp >= x.Ended {
			c.t.Fatalf("behind step %d: %+v", now, x)
		}
		now = x.Ended
	}
}

// any is calls of any kind for so many threads, that refer to one another's.
func any(x uint64, n, calls, sizes, keys, slots int) ([][]api.Call, uint64) {
	l := make([][]api.Call, n)
	for me := range l {
		for at := range calls {
			var c api.Call
			c, x = anyCall(x, me, n, at, sizes, keys, slots)
			l[me] = append(l[me], c)
		}
	}
	return l, x
}

// anyCall is one of these.
func anyCall(x uint64, me, n, at, sizes, keys, slots int) (api.Call, uint64) {
	var kind, whose, which, size, k, v, key int
	kind, x = mixed(x, 16)
	whose, x = mixed(x, 2*n)
	which, x = mixed(x, 10)
	size, x = mixed(x, sizes)
	k, x = mixed(x, 4)
	v, x = mixed(x, 3)
	key, x = mixed(x, keys)
	r := from(me, at-which)
	switch {
	case which == 9:
		// A slot's, in one of its first lives: of an object, of a node, or of nothing.
		r = raw(uint64(key%slots) | uint64(1+v)<<16)
	case whose < n:
		r = from(whose, at-which)
	}
	switch {
	case kind < 4:
		return makes(size), x
	case kind < 7:
		return frees(r), x
	case kind < 8:
		return reads(r, k-1+size%2), x
	case kind < 10:
		return writes(r, k-1+size%2, v), x
	case kind < 12:
		return exchanges(r, k-1+size%2, v, (v+1)%3), x
	case kind < 13:
		return has(key), x
	case kind < 15:
		return adds(key), x
	}
	return removes(key), x
}

func TestManyWhoeverIsPicked(t *testing.T) {
	t.Parallel()
	counts := map[api.Errno]int{}
	kinds := map[int]int{}
	var work api.Work
	for seed := range 400 {
		lists := 1 + seed%api.MostLists
		c := arena(lists+4+seed*5%31, 2+seed%11, 17+seed*7%40)
		c.Threads = 1 + seed/5%threads
		c.Tries = 1 + seed%4
		c.Sparse = []int{600, 1000, 800, 0, 400}[seed%5]
		x := uint64(seed)
		var l [][]api.Call
		l, x = any(x, c.Threads, mostCalls, []int{3, 18, 4, 6, 3}[seed%5], 2+seed%9, c.Slots)
		w := newCrowd(t, c, lists, l)
		// Every other time a compactor is picked, too.
		w.picks(x, 9000, c.Threads+seed%2*(1+c.Threads/2))
		for _, y := range w.rest() {
			counts[y.Done.E]++
			if y.Done.E == api.OK {
				kinds[y.Call.Kind]++
			}
		}
		did := w.k.Work()
		work.Evacuated += did.Evacuated
		work.Freed += did.Freed
		work.Moved += did.Moved
	}
	for _, e := range []api.Errno{api.OK, api.ErrSize, api.ErrHandles, api.ErrMemory, api.ErrInvalid, api.ErrIndex, api.ErrOther} {
		if counts[e] < 100 {
			t.Errorf("%v was told %d times", e, counts[e])
		}
	}
	for kind := 1; kind <= 8; kind++ {
		if kinds[kind] < 100 {
			t.Errorf("kind %d was done %d times", kind, kinds[kind])
		}
	}
	if work.Evacuated < 100 || work.Freed < 100 || work.Moved < 100 {
		t.Errorf("%+v", work)
	}
}

func TestTwoAddTheSameKey(t *testing.T) {
	// One is told 1, the other one 0, whoever is ahead.
	for ahead := range 70 {
		c := newCrowd(t, arena(9, 3, 40), 1, [][]api.Call{{adds(7)}, {adds(7)}})
		for range ahead {
			c.pick(0)
		}
		for c.pick(1) {
		}
		l := c.rest()
		if l[0].Done.Value != 1 || l[1].Done.Value != 0 {
			t.Fatalf("%d steps: %+v", ahead, l)
		}
	}
}

func TestAThreadWritesWhileItsObjectIsMoved(t *testing.T) {
	t.Parallel()
	// Nothing that was told as laid is lost, whatever is moved meanwhile.
	moved := 0
	for seed := range 40 {
		l := make([]api.Call, 0, mostCalls)
		for range 9 {
			l = append(l, makes(2))
		}
		for at := range 8 {
			l = append(l, frees(from(0, at)))
		}
		for v := range (mostCalls - len(l)) / 2 {
			l = append(l, writes(from(0, 8), 1, 1+v), reads(from(0, 8), 1))
		}
		c := arena(20, 5, 27)
		c.Sparse = 1000
		w := newCrowd(t, c, 1, [][]api.Call{l})
		w.picks(uint64(seed), 4000, 2+seed%4)
		w.rest()
		for _, x := range w.seats[0].Told()[17:] {
			if want := 1 + (x.At-17)/2; x.Call.Kind == 3 && x.Done.Value != want {
				t.Fatalf("%+v, not %d", x, want)
			}
		}
		moved += w.k.Work().Moved
	}
	if moved < 40 {
		t.Errorf("moved were %d", moved)
	}
}

func TestOneThatIsNeverPickedAgainStopsNobody(t *testing.T) {
	t.Parallel()
	// It stays within a call of any kind, at each of its steps.
	for i := range 8 {
		for half := range 60 {
			x := uint64(i*100 + half)
			l, _ := any(x, 3, 24, 4, 5, 30)
			l[0] = append([]api.Call{makes(2)}, each(from(0, 0))[i])
			c := newCrowd(t, arena(60, 20, 60), 2, l)
			for c.seats[0].Made(0) == 0 {
				c.pick(0)
			}
			for range half {
				c.pick(0)
			}
			for most := 99999; !c.seats[1].Ended() || !c.seats[2].Ended(); most-- {
				if c.pick(1); most%3 == 0 {
					c.pick(2)
				}
				if c.pick(3); most < 0 {
					t.Fatalf("kind %d, %d steps: they do not end", 1+i, half)
				}
			}
			c.rest()
		}
	}
}

func TestSomeCallEndsWhoeverIsPicked(t *testing.T) {
	t.Parallel()
	for seed := range 40 {
		x := uint64(seed)
		var l [][]api.Call
		l, x = any(x, 4, 40, 5, 3, 30)
		a := arena(30, 6, 40)
		a.Threads = 4
		c := newCrowd(t, a, 1+seed%3, l)
		last, sum := 0, 0
		for n := 0; sum < 160; n++ {
			var who int
			who, x = mixed(x, 4+seed%2)
			if who < 4 && c.seats[who].Ended() {
				continue
			}
			c.pick(who)
			if is := c.told[0] + c.told[1] + c.told[2] + c.told[3]; is != sum {
				sum, last = is, n
			}
			if n > last+5000 {
				t.Fatal("no call ends")
			}
		}
		c.rest()
	}
}
