package shelf_test

import (
	"testing"

	"footlocker/api"
	"footlocker/compact"
	"footlocker/layout"
	"footlocker/shelf"
)

// alone is one who asks things of a shelf, one behind the other, and the plain set of the same keys.
type alone struct {
	t   *testing.T
	e   layout.Env
	s   *shelf.Shelf
	set map[int]int
	k   *compact.Compactor // that works between them; nil: none does
}

func newAlone(t *testing.T, c api.Config, lists int) *alone {
	t.Helper()
	e := entered(t, c, 0)
	return &alone{t: t, e: e, s: made(t, e, lists), set: map[int]int{}}
}

// do asks something, and what the plain set tells: what it came to, without its step.
func (a *alone) do(who, kind, key int) api.Done {
	a.t.Helper()
	began := a.e.Now()
	d := run(a.t, by(a.e, who), asks(a.t, a.s, kind, key))
	if d.Stamp <= began || d.Stamp >= a.e.Now() {
		a.t.Fatalf("kind %d, key %d came to %+v, between the steps %d and %d", kind, key, d, began, a.e.Now())
	}
	// A key that is there needs no node.
	if d.E != api.OK && a.set[key] == 1 {
		a.t.Fatalf("kind %d, key %d, that is there, came to %+v", kind, key, d)
	}
	d.Stamp = 0
	if want := once(a.set, kind, key, d.E); d != want {
		a.t.Fatalf("kind %d, key %d came to %+v, not %+v", kind, key, d, want)
	}
	if a.k != nil {
		for range 150 {
			a.k.Step(by(a.e, api.Compactor))
		}
	}
	return d
}

func TestTheChaptersKeys(t *testing.T) {
	// A key comes in once, is there till it goes, and goes once: in each number of lists.
	for lists := 1; lists <= mostLists; lists++ {
		a := newAlone(t, arena(20, 4, 60), lists)
		for _, key := range []int{0, 1, 2, 3, 65536, 1 << 29, mostKey - 2, mostKey - 1} {
			for _, x := range []struct{ kind, value int }{{has, 0}, {remove, 0}, {add, 1}, {add, 0}, {has, 1}} {
				if d := a.do(1, x.kind, key); d.E != api.OK || d.Value != x.value {
					t.Fatalf("%d lists: kind %d, key %d came to %+v", lists, x.kind, key, d)
				}
			}
			wantKeys(t, a.e, a.s, a.set)
		}
		for _, key := range []int{1 << 29, 0, mostKey - 1} {
			for _, x := range []struct{ kind, value int }{{remove, 1}, {remove, 0}, {has, 0}} {
				if d := a.do(2, x.kind, key); d.E != api.OK || d.Value != x.value {
					t.Fatalf("%d lists: kind %d, key %d came to %+v", lists, x.kind, key, d)
				}
			}
			wantKeys(t, a.e, a.s, a.set)
		}
		if len(a.set) != 5 {
			t.Fatal(a.set)
		}
	}
}

// anyKey is one of some keys: close to one another, at the end, or anywhere.
func anyKey(n, how int) int {
	switch how % 4 {
	case 1:
		return mostKey - 1 - n
	case 2:
		return n * 48271 * 65537 % mostKey
	case 3:
		return n << 22
	}
	return n
}

func TestOneBehindTheOther(t *testing.T) {
	t.Parallel()
	// Of few keys and of many, with room for all of them and without, with a compactor between and without.
	counts := map[api.Done]int{}
	for seed := range 96 {
		lists := 1 + seed%mostLists
		c := arena(lists+seed*5%23, 1+seed*3%7, 24+seed*7%90)
		c.Threads = 1 + seed/3%api.MostThreads
		a := newAlone(t, c, lists)
		if seed%2 == 0 {
			a.k = compact.New()
		}
		x := uint64(seed)
		for range 150 {
			var kind, n, who int
			kind, x = mixed(x, 3)
			n, x = mixed(x, 2+seed%29)
			who, x = mixed(x, c.Threads)
			counts[a.do(who, 1+kind, anyKey(n, seed))]++
			wantKeys(t, a.e, a.s, a.set)
		}
	}
	for _, d := range []api.Done{{}, {Value: 1}, {E: api.ErrHandles}, {E: api.ErrMemory}} {
		if counts[d] < 100 {
			t.Errorf("%+v was told %d times", d, counts[d])
		}
	}
}

func TestManyKeys(t *testing.T) {
	t.Parallel()
	// Alone nothing is refused where there is room for all.
	for lists := 1; lists <= mostLists; lists++ {
		a := newAlone(t, arena(200, 64, 256), lists)
		for n := range 150 {
			if d := a.do(n%3, add, anyKey(n*7%150, lists)); d.E != api.OK {
				t.Fatal(d)
			}
		}
		wantKeys(t, a.e, a.s, a.set)
		for n := range 75 {
			if d := a.do(n%3, remove, anyKey(n*11%150, lists)); d.E != api.OK {
				t.Fatal(d)
			}
		}
		wantKeys(t, a.e, a.s, a.set)
		for n := range 150 {
			a.do(n%3, has, anyKey(n, lists))
		}
		if len(a.set) != 75 {
			t.Fatal(len(a.set))
		}
	}
}
