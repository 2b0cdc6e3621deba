package list_test

import (
	"math"
	"slices"
	"testing"

	"footlocker/api"
	"footlocker/list"
)

// nexts is handles as a link may have them: 0, each bit, and some more, up to 32 bits.
func nexts() []uint64 {
	l := []uint64{0, 3, 65535, 65536, 65537, 1<<31 - 1, 1<<32 - 2, 1<<32 - 1, 0x12345678, 0xfedcba98}
	for bit := range 32 {
		l = append(l, 1<<bit)
	}
	return l
}

func TestLinksComeBack(t *testing.T) {
	for _, next := range nexts() {
		for i, gone := range []bool{false, true} {
			l := api.Link{Next: next, Gone: gone}
			n := list.PutLink(l)
			if want := int(next) + i<<32; n != want {
				t.Errorf("%+v is %#x, not %#x", l, n, want)
			}
			if is := list.Link(n); is != l {
				t.Errorf("%+v comes back as %+v", l, is)
			}
		}
	}
	if n := list.PutLink(api.Link{}); n != 0 {
		t.Errorf("a link that leads nowhere is %#x", n)
	}
}

func TestLinksAreValues(t *testing.T) {
	// What is too great for a handle is packed as the greatest one, and never says that the node is to go.
	for _, next := range []uint64{1 << 32, 1<<32 + 65536, 1<<33 - 1, 1 << 33, 1 << 40, 1 << 62, 1 << 63, 1<<64 - 1} {
		for i, gone := range []bool{false, true} {
			n := list.PutLink(api.Link{Next: next, Gone: gone})
			if want := 1<<32 - 1 + i<<32; n != want {
				t.Errorf("%#x, %v is %#x, not %#x", next, gone, n, want)
			}
		}
	}
}

func TestLinksOfAnyNumber(t *testing.T) {
	for _, n := range odd() {
		l := list.Link(n)
		if l.Next != uint64(n)&(1<<32-1) || l.Gone != (uint64(n)>>32&1 == 1) {
			t.Errorf("%#x is %+v", n, l)
		}
		if is := list.Link(list.PutLink(l)); is != l {
			t.Errorf("%+v comes back as %+v", l, is)
		}
	}
}

const most = 1 << 30

// wantMay asks whether something may be asked, and that New says the same.
func wantMay(t *testing.T, kind, key int, may bool) {
	t.Helper()
	if got := list.Check(kind, key); got != may {
		t.Fatalf("kind %d, key %d: %v", kind, key, got)
	}
	for _, head := range []uint64{0, 65536, 1<<64 - 1} {
		if may {
			asks(t, kind, key, head)
			continue
		}
		if l, e := list.New(kind, key, head); e != api.ErrInput || l != nil {
			t.Fatalf("kind %d, key %d: %v, %v", kind, key, l, e)
		}
	}
}

func TestKindsAndKeys(t *testing.T) {
	good := []int{0, 1, 2, 5, 65535, 65536, most/2 - 1, most / 2, most - 2, most - 1}
	bad := []int{math.MinInt, math.MinInt + 1, -1 << 32, -most - 1, -most, -5, -2, -1, most, most + 1, 2*most - 1, 2 * most, 1 << 32, 1<<32 + 5, 1 << 62, math.MaxInt - 1, math.MaxInt}
	kinds := []int{math.MinInt, math.MinInt + 1, -1 << 32, 1 << 16, 1 << 32, 1<<32 + 1, 1<<32 + 3, math.MaxInt - 1, math.MaxInt}
	for kind := -300; kind <= 300; kind++ {
		kinds = append(kinds, kind)
	}
	for _, kind := range kinds {
		for _, key := range good {
			wantMay(t, kind, key, kind >= 1 && kind <= 3)
		}
		for _, key := range bad {
			wantMay(t, kind, key, false)
		}
	}
	if api.ListHas != 1 || api.ListAdd != 2 || api.ListRemove != 3 || api.MostKeyNumber != most || api.NodeWords != 2 {
		t.Error("the numbers are others")
	}
}

// wantActs lets a thread ask something, alone, and asks that it is done by these acts, one behind the other, and what it comes to, at the step of one of them.
func (c *crowd) wantActs(who, kind, key, value, which int, acts ...api.Act) {
	c.t.Helper()
	c.scripted(who, kind, key, api.Done{Value: value}, which, acts...)
	c.run(who)
}

// scripted lets a thread begin to ask something, that is to be done by these acts.
func (c *crowd) scripted(who, kind, key int, what api.Done, which int, acts ...api.Act) {
	c.t.Helper()
	c.beginWith(who, kind, key, c.heads[0], &script{acts: acts, which: which, what: what})
}

// of is the handle of the n-th object that was made in an arena in which none was let go.
func of(n int) uint64 { return handle(n, 1) }

func TestOfAListWithoutKeys(t *testing.T) {
	for who := range 3 {
		c := newCrowd(t, arena(5, 4, 20), 1)
		h := c.heads[0]
		c.wantActs(who, has, 5, 0, 0, reads(h, 1))
		c.wantActs(who, remove, 5, 0, 0, reads(h, 1))
		c.wantActs(who, add, 5, 1, 4, reads(h, 1), makes(), writes(of(1), 0, 5), writes(of(1), 1, 0), exchanges(h, 0, int(of(1))))
		c.rest()
	}
}

// three is a list of the keys 3, 5, 7; they are the nodes of slots 1, 2, 3.
func three(t *testing.T) *crowd {
	t.Helper()
	c := newCrowd(t, arena(8, 4, 20), 1)
	c.fill(3, 5, 7)
	return c
}

func TestHas(t *testing.T) {
	c := three(t)
	h := c.heads[0]
	l := []api.Act{reads(h, 1), reads(of(1), 1), reads(of(1), 0), reads(of(2), 1), reads(of(2), 0), reads(of(3), 1), reads(of(3), 0)}
	// A key that is there: where its node's link was read; one that is not: where the link ahead was.
	for key := range 3 {
		c.wantActs(1, has, key, 0, 0, l[:3]...)
	}
	c.wantActs(1, has, 3, 1, 1, l[:3]...)
	c.wantActs(1, has, 4, 0, 1, l[:5]...)
	c.wantActs(1, has, 5, 1, 3, l[:5]...)
	c.wantActs(1, has, 6, 0, 3, l...)
	c.wantActs(1, has, 7, 1, 5, l...)
	for _, key := range []int{8, 9, most - 1} {
		c.wantActs(1, has, key, 0, 5, l...)
	}
	c.rest()
}

func TestRemoveOfAKeyThatIsNotThere(t *testing.T) {
	c := three(t)
	h := c.heads[0]
	l := []api.Act{reads(h, 1), reads(of(1), 1), reads(of(1), 0), reads(of(2), 1), reads(of(2), 0), reads(of(3), 1), reads(of(3), 0)}
	c.wantActs(2, remove, 0, 0, 0, l[:3]...)
	c.wantActs(2, remove, 4, 0, 1, l[:5]...)
	c.wantActs(2, remove, 6, 0, 3, l...)
	c.wantActs(2, remove, 8, 0, 5, l...)
	c.rest()
}

func TestAddOfAKeyThatIsThere(t *testing.T) {
	c := three(t)
	h := c.heads[0]
	l := []api.Act{reads(h, 1), reads(of(1), 1), reads(of(1), 0), reads(of(2), 1), reads(of(2), 0), reads(of(3), 1), reads(of(3), 0)}
	c.wantActs(2, add, 3, 0, 1, l[:3]...)
	c.wantActs(2, add, 5, 0, 3, l[:5]...)
	c.wantActs(2, add, 7, 0, 5, l...)
	c.rest()
}

func TestAdd(t *testing.T) {
	// First, between two, and last.
	c := three(t)
	h := c.heads[0]
	c.wantActs(1, add, 2, 1, 6, reads(h, 1), reads(of(1), 1), reads(of(1), 0),
		makes(), writes(of(4), 0, 2), writes(of(4), 1, int(of(1))), exchanges(h, int(of(1)), int(of(4))))
	c = three(t)
	c.wantActs(1, add, 4, 1, 8, reads(h, 1), reads(of(1), 1), reads(of(1), 0), reads(of(2), 1), reads(of(2), 0),
		makes(), writes(of(4), 0, 4), writes(of(4), 1, int(of(2))), exchanges(of(1), int(of(2)), int(of(4))))
	c.rest()
	c = three(t)
	c.wantActs(1, add, 8, 1, 10, reads(h, 1), reads(of(1), 1), reads(of(1), 0), reads(of(2), 1), reads(of(2), 0), reads(of(3), 1), reads(of(3), 0),
		makes(), writes(of(4), 0, 8), writes(of(4), 1, 0), exchanges(of(3), 0, int(of(4))))
	c.rest()
}

func TestRemove(t *testing.T) {
	// The first one, one between two, and the last one.
	c := three(t)
	h := c.heads[0]
	c.wantActs(1, remove, 3, 1, 3, reads(h, 1), reads(of(1), 1), reads(of(1), 0),
		exchanges(of(1), int(of(2)), int(of(2))+toGo), exchanges(h, int(of(1)), int(of(2))), frees(of(1)))
	c.rest()
	c = three(t)
	c.wantActs(1, remove, 5, 1, 5, reads(h, 1), reads(of(1), 1), reads(of(1), 0), reads(of(2), 1), reads(of(2), 0),
		exchanges(of(2), int(of(3)), int(of(3))+toGo), exchanges(of(1), int(of(2)), int(of(3))), frees(of(2)))
	c.rest()
	c = three(t)
	c.wantActs(1, remove, 7, 1, 7, reads(h, 1), reads(of(1), 1), reads(of(1), 0), reads(of(2), 1), reads(of(2), 0), reads(of(3), 1), reads(of(3), 0),
		exchanges(of(3), 0, toGo), exchanges(of(2), int(of(3)), 0), frees(of(3)))
	c.rest()
}

func TestTheFirstNodesKeyDoesNotMatter(t *testing.T) {
	for _, key := range []int{0, 1, 5, 6, most - 1, most, 1<<40 - 1} {
		c := newCrowd(t, arena(8, 4, 20), 1)
		c.act(0, writes(c.heads[0], 0, key))
		c.fill(6, 5, 1)
		for k := range 8 {
			want := 0
			if k == 1 || k == 5 || k == 6 {
				want = 1
			}
			if d := c.do(1, has, k); d.Value != want {
				t.Fatalf("key %d: %+v", k, d)
			}
		}
		c.do(2, remove, 5)
		if n := found(t, c.e, c.heads[0]); n.key != key {
			t.Fatalf("it is %d now", n.key)
		}
		c.rest()
	}
}

func TestTheExample(t *testing.T) {
	c := newCrowd(t, arena(4, 4, 20), 1)
	if d := c.do(0, add, 5); d.Value != 1 {
		t.Fatal(d)
	}
	if d := c.do(0, has, 5); d.Value != 1 {
		t.Fatal(d)
	}
	c.rest()
}

func TestANodeThatIsToGo(t *testing.T) {
	// Whoever comes upon it leads past it, and lets it go; then the key is not there, where that was laid.
	for i, acts := range [][]api.Act{
		{},
		// The slot of the one that was let go is used again, in its second life.
		{makes(), writes(handle(2, 2), 0, 5), writes(handle(2, 2), 1, int(of(3))), exchanges(of(1), int(of(3)), int(handle(2, 2)))},
		{},
	} {
		c := three(t)
		h := c.heads[0]
		c.act(0, exchanges(of(2), int(of(3)), int(of(3))+toGo))
		which, value := 4, 0
		if i == 1 {
			which, value = 11, 1
		}
		look := []api.Act{
			reads(h, 1), reads(of(1), 1), reads(of(1), 0), reads(of(2), 1),
			exchanges(of(1), int(of(2)), int(of(3))), frees(of(2)), reads(of(3), 1), reads(of(3), 0),
		}
		c.wantActs(1, 1+i, 5, value, which, append(look, acts...)...)
		if genOf(c.e.M.Peek(slotAt(c.e.C, 2))) != 2 || owned(c.e) != 3+value {
			t.Fatal("the node lives")
		}
		if l := keys(t, c.e, h); len(l) != 2+value {
			t.Fatal(l)
		}
		wantSlots(t, c.e)
	}
}

func TestManyNodesThatAreToGo(t *testing.T) {
	// One behind the other: the link ahead leads past them one by one, up to the end.
	c := three(t)
	h := c.heads[0]
	c.act(0, exchanges(of(1), int(of(2)), int(of(2))+toGo))
	c.act(0, exchanges(of(2), int(of(3)), int(of(3))+toGo))
	c.act(0, exchanges(of(3), 0, toGo))
	c.wantActs(2, has, 5, 0, 8,
		reads(h, 1), reads(of(1), 1), exchanges(h, int(of(1)), int(of(2))), frees(of(1)),
		reads(of(2), 1), exchanges(h, int(of(2)), int(of(3))), frees(of(2)),
		reads(of(3), 1), exchanges(h, int(of(3)), 0), frees(of(3)))
	if owned(c.e) != 1 {
		t.Fatal("a node lives")
	}
	wantSlots(t, c.e)
}

func TestANodeThatIsToGoBehindTheKeyStays(t *testing.T) {
	c := three(t)
	h := c.heads[0]
	c.act(0, exchanges(of(3), 0, toGo))
	c.wantActs(2, has, 4, 0, 1, reads(h, 1), reads(of(1), 1), reads(of(1), 0), reads(of(2), 1), reads(of(2), 0))
	c.wantActs(2, has, 5, 1, 3, reads(h, 1), reads(of(1), 1), reads(of(1), 0), reads(of(2), 1), reads(of(2), 0))
	if n := walked(t, c.e, h); len(n) != 3 || !n[2].gone() {
		t.Fatal(n)
	}
}

func TestAListThatBeginsNowhere(t *testing.T) {
	// A head that is 0, that nobody made, that was let go, that is no part of a list, or that has no link.
	for kind := has; kind <= remove; kind++ {
		for _, key := range []int{0, 5, most - 1} {
			for _, h := range []uint64{0, 1, 3, of(0) + 1<<16, of(5), of(7), of(8), handle(7, 2), of(65535), 1 << 32, of(0) + 1<<32, 1<<64 - 1} {
				c := three(t)
				c.wantRefused(kind, key, h, api.ErrInvalid)
			}
			c := three(t)
			gone := c.act(0, makes()).Handle
			c.act(0, frees(gone))
			c.wantRefused(kind, key, gone, api.ErrInvalid)
			c.wantRefused(kind, key, gone+1<<16, api.ErrInvalid)
			plain := c.act(0, api.Act{Kind: 1, Size: 2}).Handle
			c.wantRefused(kind, key, plain, api.ErrInvalid)
			short := c.act(0, api.Act{Kind: 1, Size: 1, Own: true}).Handle
			c.wantRefused(kind, key, short, api.ErrIndex)
		}
	}
}

// wantRefused asks that something that is asked of a list ends with an error, that of the first link's read, and changes nothing.
func (c *crowd) wantRefused(kind, key int, head uint64, why api.Errno) {
	c.t.Helper()
	l := words(c.e.M)
	c.beginWith(1, kind, key, head, &script{acts: []api.Act{reads(head, 1)}, what: api.Done{E: why}})
	if d := c.run(1); d.E != why || d.Value != 0 || d.Handle != 0 {
		c.t.Fatalf("%#x came to %+v", head, d)
	}
	if !slices.Equal(words(c.e.M), l) {
		c.t.Fatalf("%#x: words are others", head)
	}
}

func TestNoSlotIsLeft(t *testing.T) {
	for slots := 2; slots <= 6; slots++ {
		c := newCrowd(t, arena(slots, 9, 20), 1)
		for key := range slots - 1 {
			c.fill(10 * key)
		}
		for range 3 {
			for _, key := range []int{1, 5, 11, 99} {
				l := words(c.e.M)
				if d := c.do(1, add, key); d != (api.Done{E: api.ErrHandles, Stamp: c.e.Now() - 1}) {
					t.Fatalf("%+v", d)
				}
				if !slices.Equal(words(c.e.M), l) {
					t.Fatal("words are others")
				}
			}
			// One that is there needs no node.
			if d := c.do(2, add, 0); d.E != api.OK || d.Value != 0 {
				t.Fatal(d)
			}
			// A key that goes makes room again.
			if d := c.do(2, remove, 0); d.E != api.OK || d.Value != 1 {
				t.Fatal(d)
			}
			if d := c.do(1, add, 0); d.E != api.OK || d.Value != 1 {
				t.Fatal(d)
			}
		}
		c.rest()
	}
}

func TestNoRoomIsLeft(t *testing.T) {
	// The slot that was taken is given back.
	c := newCrowd(t, arena(20, 1, 20), 1)
	c.fill(5, 4, 3, 2, 1)
	for range 5 {
		for _, key := range []int{0, 6} {
			d := c.do(1, add, key)
			if d.E != api.ErrMemory || d.Value != 0 || d.Stamp != c.e.Now()-1 {
				t.Fatalf("%+v", d)
			}
			wantSlots(t, c.e)
		}
	}
	if d := c.do(1, add, 3); d.E != api.OK || d.Value != 0 {
		t.Fatal(d)
	}
	c.rest()
}

func TestOneBehindTheOther(t *testing.T) {
	t.Parallel()
	// Of few keys and of many, with room for all of them and without.
	counts := map[api.Done]int{}
	for seed := range uint64(80) {
		a := arena(2+int(seed*5%23), 1+int(seed%6), api.LeastChunk+int(seed*7%90))
		a.Threads = 1 + int(seed%api.MostThreads)
		a.Gens = 1 + int(seed*seed%99)
		c := newCrowd(t, a, 1)
		x := seed
		for range 120 {
			var kind, key, who int
			kind, x = mixed(x, 3)
			key, x = mixed(x, 2+int(seed%17))
			who, x = mixed(x, a.Threads)
			if seed%3 == 0 {
				key = []int{key, most - 1 - key, key * 65537}[key%3]
			}
			d := c.do(who, 1+kind, key)
			c.wantLinear()
			d.Stamp = 0
			counts[d]++
		}
		c.rest()
	}
	for _, d := range []api.Done{{}, {Value: 1}, {E: api.ErrHandles}, {E: api.ErrMemory}} {
		if counts[d] < 100 {
			t.Errorf("%+v was told %d times", d, counts[d])
		}
	}
}

func TestAloneNodesAreLetGo(t *testing.T) {
	t.Parallel()
	// Alone there are just the nodes of keys that are there, and their words are those that live.
	c := newCrowd(t, arena(12, 60, 90), 1)
	set := map[int]int{}
	x := uint64(7)
	for range 400 {
		var kind, key int
		kind, x = mixed(x, 3)
		key, x = mixed(x, 9)
		want := once(set, told{kind: 1 + kind, key: key})
		if d := c.do(1, 1+kind, key); d.E != api.OK || d.Value != want.Value {
			t.Fatal(d, want)
		}
		sum := 0
		for i := range c.e.C.Chunks {
			sum += int(c.e.M.Peek(liveAt(c.e.C, i)))
		}
		if owned(c.e) != 1+len(set) || sum != 3+3*len(set) || len(walked(t, c.e, c.heads[0])) != len(set) {
			t.Fatalf("%d live, with %d words, of %d keys", owned(c.e), sum, len(set))
		}
	}
	c.rest()
}

func TestListsAreApart(t *testing.T) {
	t.Parallel()
	c := newCrowd(t, arena(60, 30, 90), 4)
	x := uint64(1)
	for range 400 {
		var kind, key, which int
		kind, x = mixed(x, 3)
		key, x = mixed(x, 9)
		which, x = mixed(x, 4)
		c.beginAt(which%3, 1+kind, key, c.heads[which])
		c.run(which % 3)
	}
	c.rest()
}

func TestCallsCantReachNodes(t *testing.T) {
	c := three(t)
	l := words(c.e.M)
	for n := range 4 {
		for _, x := range []api.Act{frees(of(n)), reads(of(n), 0), reads(of(n), 1), writes(of(n), 0, 9), writes(of(n), 1, 9), exchanges(of(n), 0, 9), exchanges(of(n), int(of(n+1)), 9)} {
			x.Own = false
			if d := did(t, c.e, x); d.E != api.ErrInvalid {
				t.Fatalf("%+v came to %+v", x, d)
			}
		}
	}
	if !slices.Equal(words(c.e.M), l) {
		t.Fatal("words are others")
	}
}
