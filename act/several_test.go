package act_test

import (
	"slices"
	"testing"

	"footlocker/api"
)

// something is an act that a thread may begin, most often one to a few words of the objects that were made last; now and then one that comes to an error.
func (c *crowd) something(x uint64, full int) (api.Act, uint64) {
	var what, which, k, v, size int
	what, x = mixed(x, 24)
	which, x = mixed(x, full)
	size, x = mixed(x, 18)
	k, x = mixed(x, 4)
	v, x = mixed(x, 3)
	own := x>>40&1 == 0
	if len(c.made) == 0 || what < 5 {
		return makes(size, own), x
	}
	o := c.made[max(0, len(c.made)-1-which)]
	n := o.number()
	switch {
	case what < 10:
		return frees(n, o.own), x
	case what < 13:
		return reads(n, k-x1(size), o.own), x
	case what < 17:
		return writes(n, k, v, o.own), x
	case what < 21:
		return exchanges(n, k, v, (v+1)%3, o.own), x
	case what == 21:
		// As if it were the other thing.
		return all(n, k, !o.own)[size%4], x
	case what == 22:
		// Another life of the slot.
		return all(n+1<<16*uint64(1+v), k, o.own)[size%4], x
	default:
		// A number of all kinds.
		return all(x>>(x>>58), k, own)[size%4], x
	}
}

// x1 is 1 now and then.
func x1(n int) int {
	if n == 0 {
		return 1
	}
	return 0
}

func TestOneBehindTheOther(t *testing.T) {
	t.Parallel()
	counts := map[api.Errno]int{}
	for seed := range uint64(120) {
		a := arena(1+int(seed*5%23), 1+int(seed%14), api.LeastChunk+int(seed*7%90))
		a.Threads = 1 + int(seed%api.MostThreads)
		a.Gens = 1 + int(seed*seed%99)
		c := newCrowd(t, a)
		x := seed
		for range 300 {
			var y api.Act
			var who int
			y, x = c.something(x, 2+int(seed%9))
			who, x = mixed(x, a.Threads)
			counts[c.do(who, y).E]++
		}
		c.rest()
	}
	for _, e := range []api.Errno{api.OK, api.ErrSize, api.ErrHandles, api.ErrMemory, api.ErrInvalid, api.ErrIndex, api.ErrOther} {
		if counts[e] < 100 {
			t.Errorf("%v was told %d times", e, counts[e])
		}
	}
}

func TestSizesHandlesIndexesAndValuesOfAllKinds(t *testing.T) {
	t.Parallel()
	good, _ := values()
	c := newCrowd(t, arena(6, 5, 40))
	l := []thing{c.make(0, 1, false, 60), c.make(1, 2, true, 70), c.make(2, 3, false, 80), c.make(0, 16, true, 90)}
	for i, n := range odd() {
		for _, own := range []bool{false, true} {
			if d := c.do(i%3, makes(n, own)); d.E == api.OK {
				c.do(1, frees(d.Handle, own))
			}
			for _, y := range all(uint64(n), i%3, own) {
				c.do(2, y)
			}
			for _, o := range l {
				for _, y := range all(o.number(), n, own)[1:] {
					c.do(0, y)
				}
				for _, v := range good {
					c.do(0, writes(o.number(), i%3, v, own))
					c.do(0, exchanges(o.number(), i%3, v, good[i%len(good)], own))
				}
			}
		}
	}
	c.rest()
}

// two is a crowd with two objects: one of some words, and one more that is a part of a list.
func two(t *testing.T, size int) (*crowd, []thing) {
	t.Helper()
	c := newCrowd(t, arena(6, 4, 40))
	return c, []thing{c.make(0, size, false, 50), c.make(0, 2, true, 50)}
}

// kinds is one act of each kind, to an object; a value that is laid tells who did it.
func kinds(who int, o thing) []api.Act {
	n := o.number()
	return []api.Act{
		makes(o.size, o.own), frees(n, o.own), reads(n, 0, o.own), writes(n, 0, 10+who, o.own),
		exchanges(n, 0, 50, 20+who, o.own), exchanges(n, 0, 10, 30+who, o.own), writes(n, o.size-1, 40+who, o.own),
	}
}

func TestTwoInEachOrder(t *testing.T) {
	t.Parallel()
	// One does some steps, another one some or all, and so on, to the same object or another one.
	for size := 1; size <= 3; size += 2 {
		for i := range kinds(0, thing{}) {
			for j := range kinds(0, thing{}) {
				for half := range 16 {
					for part := range 14 {
						c, l := two(t, size)
						c.begin(0, kinds(0, l[0])[i])
						c.begin(1, kinds(1, l[half*part%7/6])[j])
						c.picked(0, half)
						c.picked(1, part)
						c.picked(0, 1+part%3)
						c.picked(1, 1+half%5)
						c.rest()
					}
				}
			}
		}
	}
}

func TestThreeWhoeverIsPicked(t *testing.T) {
	t.Parallel()
	for i := range kinds(0, thing{}) {
		for j := range kinds(0, thing{}) {
			for seed := range uint64(60) {
				c, l := two(t, 1+int(seed%4))
				c.begin(0, kinds(0, l[0])[i])
				c.begin(1, kinds(1, l[0])[j])
				c.begin(2, kinds(2, l[0])[seed%7])
				x := seed
				for range 60 {
					var who int
					who, x = mixed(x, 3)
					c.picked(who, 1)
				}
				c.rest()
			}
		}
	}
}

func TestManyWhoeverIsPicked(t *testing.T) {
	t.Parallel()
	counts := map[api.Errno]int{}
	var all api.Work
	for seed := range uint64(160) {
		a := arena(2+int(seed*5%23), 3+int(seed%14), api.LeastChunk+int(seed*7%90))
		a.Threads = 1 + int(seed%api.MostThreads)
		a.Gens = 1 + int(seed*seed%99)
		a.Tries = 1 + int(seed%4)
		a.Sparse = []int{600, 1000, 800, 0, 400}[seed%5]
		c := newCrowd(t, a)
		x := seed
		for range 3000 {
			var who int
			// Every other time a compactor is picked, too.
			if who, x = mixed(x, a.Threads+int(seed%2)*(1+a.Threads/2)); who >= a.Threads {
				c.compact()
				continue
			}
			if !c.busy(who) {
				var y api.Act
				y, x = c.something(x, 2+int(seed%17))
				c.begin(who, y)
			}
			c.pick(who)
		}
		c.rest()
		for _, y := range c.told {
			counts[y.done.E]++
		}
		w := c.k.Work()
		all.Evacuated += w.Evacuated
		all.Freed += w.Freed
		all.Moved += w.Moved
	}
	for _, e := range []api.Errno{api.OK, api.ErrSize, api.ErrHandles, api.ErrMemory, api.ErrInvalid, api.ErrIndex, api.ErrOther} {
		if counts[e] < 100 {
			t.Errorf("%v was told %d times", e, counts[e])
		}
	}
	if all.Evacuated < 100 || all.Freed < 100 || all.Moved < 100 {
		t.Errorf("%+v", all)
	}
}

func TestWhileItIsPinnedNoChunkIsFree(t *testing.T) {
	t.Parallel()
	// A thread stays within an act to an object that is moved meanwhile: where that stood is not free till the act is done, however long the compactor works; then it is.
	seen := 0
	for size := 1; size <= 4; size++ {
		for _, which := range []int{2, 3, 4, 5} {
			for half := 3; half <= 6; half++ {
				room := rooms[classes[size]]
				c := newCrowd(t, arena(8, 4, max(api.LeastChunk, 5*room)))
				var l []thing
				for range c.e.C.Words/room + 1 {
					l = append(l, c.make(0, size, false, 50))
				}
				for _, o := range l[1 : len(l)-1] {
					c.do(0, frees(o.number(), false))
				}
				c.begin(1, kinds(1, l[0])[which])
				c.picked(1, half)
				was := chunkOf(c.e.C, found(c.e, l[0].slot).addr)
				for range 400 {
					c.compact()
					if w := c.e.M.Peek(chunkAt(c.e.C, was)); kindOf(w) == free {
						t.Fatalf("chunk %d is free, though thread 1 is pinned", was)
					}
				}
				if chunkOf(c.e.C, found(c.e, l[0].slot).addr) != was {
					seen++
				}
				if d := c.run(1); d.E != api.OK && d.E != api.ErrOther {
					t.Fatal(d)
				}
				c.compacts(1000)
				if w := c.e.M.Peek(chunkAt(c.e.C, was)); kindOf(w) != free {
					t.Fatalf("chunk %d, %#x, is not free", was, w)
				}
				c.rest()
			}
		}
	}
	if seen < 30 {
		t.Errorf("moved meanwhile %d times", seen)
	}
}

func TestNoneIsLost(t *testing.T) {
	t.Parallel()
	// Each adds 1 to a word of one object, by an exchange of what it read, as often as it must till it is told that it did.
	for seed := range uint64(60) {
		const adders, each = 4, 12
		a := arena(6, 8, 30)
		a.Threads = adders
		a.Sparse = 1000
		c := newCrowd(t, a)
		o := c.make(0, 1+int(seed%5), seed%2 == 0, 0)
		var is, added [adders]int
		var exchanging [adders]bool
		x := seed
		for sum := 0; sum < adders*each; {
			var who int
			who, x = mixed(x, adders+2)
			if who >= adders {
				c.compact()
				continue
			}
			if added[who] == each {
				continue
			}
			if !c.busy(who) {
				y := reads(o.number(), 0, o.own)
				if exchanging[who] {
					y = exchanges(o.number(), 0, is[who], is[who]+1, o.own)
				}
				c.begin(who, y)
			}
			c.pick(who)
			if c.busy(who) {
				continue
			}
			d := c.told[len(c.told)-1].done
			if exchanging[who] && d.E == api.OK {
				added[who]++
				sum++
			}
			is[who] = d.Value
			exchanging[who] = !exchanging[who] || d.E == api.ErrOther
		}
		c.rest()
		if d := c.do(0, reads(o.number(), 0, o.own)); d.Value != adders*each {
			t.Fatalf("it is %d", d.Value)
		}
	}
}

func TestOneThreadIsToldTheSameWithACompactor(t *testing.T) {
	t.Parallel()
	// There is room enough without one.
	for seed := range uint64(40) {
		a := arena(20, 60, 120)
		a.Threads = 1
		a.Sparse = 900
		play := func(each int) []api.Done {
			c := newCrowd(t, a)
			x := seed
			for range 120 {
				var y api.Act
				y, x = c.something(x, 6)
				for c.begin(0, y); c.busy(0); c.compacts(each) {
					c.pick(0)
				}
			}
			c.rest()
			var l []api.Done
			for _, y := range c.told {
				y.done.Stamp = 0
				l = append(l, y.done)
			}
			return l
		}
		alone := play(0)
		for each := 1; each <= 8; each += 1 + int(seed%4) {
			if with := play(each); !slices.Equal(with, alone) {
				t.Fatalf("%v is told, and alone %v", with, alone)
			}
		}
	}
}

func TestOneThatIsNeverPickedAgainStopsNobody(t *testing.T) {
	t.Parallel()
	for size := 1; size <= 3; size++ {
		for i := range kinds(0, thing{}) {
			for half := range 24 {
				c, l := two(t, size)
				c.begin(0, kinds(0, l[0])[i])
				c.picked(0, half)
				for j, y := range kinds(1, l[0]) {
					if j == 1 {
						continue
					}
					if d := c.do(1+j%2, y); d.E != api.OK && d.E != api.ErrOther && !(i == 1 && d.E == api.ErrInvalid) {
						t.Fatalf("%+v: %+v", y, d)
					}
				}
				if d := c.do(2, reads(l[1].number(), 1, true)); d.Value != 51 {
					t.Fatal(d)
				}
				c.compacts(100)
				if d := c.do(1, frees(l[1].number(), true)); d.E != api.OK {
					t.Fatal(d)
				}
			}
		}
	}
}
