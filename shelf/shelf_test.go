package shelf_test

import (
	"math"
	"math/big"
	"slices"
	"testing"

	"footlocker/api"
	"footlocker/layout"
	"footlocker/list"
	"footlocker/shelf"
	"footlocker/word"
)

// place is the list in which a key is, of some, by numbers of any length.
func place(key, lists int) int {
	n := big.NewInt(int64(key))
	round := new(big.Int).Lsh(big.NewInt(1), 32)
	n.Mod(n, round)
	n.Mul(n, big.NewInt(2654435769))
	n.Mod(n, round)
	return int(n.Mod(n, big.NewInt(int64(lists))).Int64())
}

// ends is keys at 0, at and about the ends of 32 bits, and at those of keys that may be.
func ends() []int {
	l := []int{math.MinInt, math.MinInt + 1, math.MaxInt - 1, math.MaxInt}
	for _, n := range []int{0, mostKey, 1 << 31, 1 << 32, 1 << 33, 1<<32 + 1<<31, 1 << 40, 1 << 62} {
		for d := -5; d <= 5; d++ {
			l = append(l, n+d, -n+d)
		}
	}
	return l
}

func TestOfByNumbers(t *testing.T) {
	// The products were worked out by hand: of 1, 2 (1013904242), 3 (3668340011), of -1 and of the greatest of 32 bits (1640531527).
	for _, x := range []struct{ key, lists, want int }{
		{0, 1, 0}, {0, 8, 0},
		{1, 2, 1}, {1, 3, 0}, {1, 5, 4}, {1, 7, 6}, {1, 8, 1}, {1, 10, 9}, {1, 1 << 32, 2654435769}, {1, math.MaxInt, 2654435769},
		{2, 2, 0}, {2, 3, 2}, {2, 7, 1}, {2, 8, 2}, {2, 1 << 32, 1013904242},
		{3, 8, 3}, {3, 1 << 32, 3668340011}, {3, 3668340011, 0},
		{1<<32 - 1, 8, 7}, {1<<32 - 1, 7, 5}, {1<<32 - 1, 1 << 32, 1640531527}, {-1, 7, 5}, {-1, 1 << 32, 1640531527},
		{1 << 31, 8, 0}, {1 << 31, 7, 2}, {1 << 31, 1 << 32, 1 << 31}, {1 << 32, 7, 0}, {1<<32 + 1, 7, 6}, {1<<63 - 1, 7, 5},
	} {
		if got := shelf.Of(x.key, x.lists); got != x.want {
			t.Errorf("key %d is in list %d of %d, not %d", x.key, got, x.lists, x.want)
		}
	}
}

func TestOfAtEachEnd(t *testing.T) {
	for _, key := range ends() {
		for _, lists := range []int{1, 2, 3, 4, 5, 6, 7, 8, 9, 10, 1000, 1<<31 - 1, 1 << 31, 1<<32 - 1, 1 << 32, 1<<32 + 1, math.MaxInt} {
			if got, want := shelf.Of(key, lists), place(key, lists); got != want {
				t.Errorf("key %d is in list %d of %d, not %d", key, got, lists, want)
			}
		}
		for _, lists := range []int{0, -1, -2, -8, -1 << 32, math.MinInt + 1, math.MinInt} {
			if got := shelf.Of(key, lists); got != 0 {
				t.Errorf("key %d is in list %d of %d", key, got, lists)
			}
		}
	}
}

func TestOfManyKeys(t *testing.T) {
	x := uint64(3)
	for n := range 20000 {
		x = x*6364136223846793005 + 1442695040888963407
		for _, key := range []int{n, mostKey - 1 - n, int(x >> 34), int(x)} {
			for lists := 1; lists <= mostLists; lists++ {
				if got, want := shelf.Of(key, lists), place(key, lists); got != want {
					t.Fatalf("key %d is in list %d of %d, not %d", key, got, lists, want)
				}
			}
		}
	}
}

func TestHowManyListsThereMayBe(t *testing.T) {
	e := entered(t, arena(99, 9, 60), 0)
	wantNoStep(t, e, func() {
		for _, lists := range []int{math.MinInt, math.MinInt + 1, -1 << 32, -1<<32 + 1, -9, -8, -2, -1, 9, 10, 16, 64, 1 << 16, 1 << 32, 1<<32 + 1, math.MaxInt - 1, math.MaxInt} {
			// Also where no node could be made: that may not be is told first.
			for _, v := range []layout.Env{e, {}, {C: e.C}, {M: e.M}} {
				if s, err := shelf.Fresh(v, lists); err != api.ErrInput || s != nil {
					t.Fatalf("%d lists: %v, %v", lists, s, err)
				}
			}
		}
	})
	for lists := range 9 {
		if s := made(t, e, lists); s.Lists() != lists || len(s.Heads()) != lists {
			t.Fatalf("%d lists: there are %d, and %d heads", lists, s.Lists(), len(s.Heads()))
		}
	}
	if api.MostLists != mostLists {
		t.Error("the number is another one")
	}
}

func TestFreshMakesNodesOneBehindTheOther(t *testing.T) {
	// As whoever makes so many nodes alone, step by step: also in an arena in which something stands, and something was let go.
	for _, who := range []int{0, 1, 2, 3, api.Compactor, math.MinInt, math.MaxInt} {
		for lists := range 9 {
			for stands := range 4 {
				e, twin := entered(t, arena(16, 4, 60), who), entered(t, arena(16, 4, 60), who)
				for _, v := range []layout.Env{e, twin} {
					filled(t, by(v, 1), stands)
				}
				s := made(t, e, lists)
				l, _ := nodes(t, twin, lists)
				wantSame(t, e, twin)
				if !slices.Equal(s.Heads(), l) {
					t.Fatalf("the heads are %v, not %v", s.Heads(), l)
				}
				if lists > 0 && e.M.Last().Who != who {
					t.Fatalf("by %d: %v", who, e.M.Last())
				}
				wantBegun(t, e, s)
			}
		}
	}
}

// filled lets objects stand in an arena, and lets each second one go.
func filled(t *testing.T, e layout.Env, n int) {
	t.Helper()
	for i := range n {
		d := did(t, e, api.Act{Kind: api.ActAlloc, Size: 1 + 3*i})
		if i%2 == 0 {
			did(t, e, api.Act{Kind: api.ActFree, Handle: d.Handle})
		}
	}
}

// wantBegun asks that each list has a node of its own at which it begins, and no keys, and that nobody is pinned.
func wantBegun(t *testing.T, e layout.Env, s *shelf.Shelf) {
	t.Helper()
	slots, places := map[int]int{}, map[int]int{}
	for _, n := range s.Heads() {
		h, _ := word.Handle(n)
		slots[h.Slot]++
		places[word.Slot(e.M.Peek(layout.Slot(e.C, h.Slot))).Addr]++
		if is := found(t, e, n); is != (node{}) {
			t.Fatalf("%#x has the words %+v", n, is)
		}
	}
	if len(slots) != s.Lists() || len(places) != s.Lists() {
		t.Fatalf("%d lists begin in %d slots, at %d places", s.Lists(), len(slots), len(places))
	}
	for i := range e.C.Threads {
		if w := e.M.Peek(layout.Pin(i)); w != 0 {
			t.Fatalf("thread %d is pinned, at %d", i, w)
		}
	}
}

func TestNoRoomForAllOfThem(t *testing.T) {
	// The error is that of the node that could not be made; those ahead of it were made.
	counts := map[api.Errno]int{}
	for _, c := range []api.Config{
		arena(1, 4, 60), arena(2, 4, 60), arena(7, 4, 60), arena(8, 4, 60), // so many slots
		arena(20, 1, 17), arena(20, 1, 18), arena(20, 1, 23), arena(20, 1, 24), // room for 5, 6, 7, 8
		arena(5, 1, 17), arena(6, 1, 17), arena(4, 1, 17),
	} {
		for lists := range 9 {
			e, twin := entered(t, c, 1), entered(t, c, 1)
			s, err := shelf.Fresh(e, lists)
			l, want := nodes(t, twin, lists)
			wantSame(t, e, twin)
			if err != want || (s == nil) != (err != api.OK) || !slices.Equal(s.Heads(), l) {
				t.Fatalf("%v, %d lists: %v, %v, not %v, %v", c, lists, s.Heads(), err, l, want)
			}
			if fit := min(c.Slots, c.Chunks*(c.Words/3)); (lists > fit) != (err != api.OK) {
				t.Fatalf("%v, %d lists: %v", c, lists, err)
			}
			counts[err]++
		}
	}
	if counts[api.ErrHandles] < 5 || counts[api.ErrMemory] < 5 {
		t.Error(counts)
	}
}

func TestANodeThatIsMissing(t *testing.T) {
	// One slot, or one place, too few: the one error, or the other; if both are, that there is no slot.
	for _, x := range []struct {
		c    api.Config
		want api.Errno
	}{
		{arena(7, 4, 60), api.ErrHandles},
		{arena(8, 1, 23), api.ErrMemory},
		{arena(5, 1, 17), api.ErrHandles},
		{arena(8, 1, 24), api.OK},
	} {
		if s, err := shelf.Fresh(entered(t, x.c, 0), mostLists); err != x.want || (s == nil) != (err != api.OK) {
			t.Errorf("%v: %v, not %v", x.c, err, x.want)
		}
	}
}

// wantNothing asks that a shelf has no lists.
func wantNothing(t *testing.T, s *shelf.Shelf) {
	t.Helper()
	if n, l := s.Lists(), s.Heads(); n != 0 || len(l) != 0 {
		t.Fatalf("there are %d lists, that begin at %v", n, l)
	}
	for _, key := range append(ends(), 2, 3, 99) {
		if h, is := s.Head(key); is || h != 0 {
			t.Fatalf("the list of key %d begins at %#x, %v", key, h, is)
		}
		for kind := -2; kind <= 9; kind++ {
			if l, e := s.New(kind, key); l != nil || e != api.ErrInput {
				t.Fatalf("kind %d, key %d: %v, %v", kind, key, l, e)
			}
		}
	}
}

func TestNoLists(t *testing.T) {
	// No node is made: neither is any refused, wherever that is.
	e := entered(t, arena(4, 3, 20), 1)
	full := entered(t, arena(1, 1, 17), 0)
	did(t, full, makes())
	wantNoStep(t, e, func() {
		for _, v := range []layout.Env{e, full, {}, {C: e.C}, {M: e.M}} {
			wantNothing(t, made(t, v, 0))
		}
	})
}

func TestANilOneAndOneThatNobodyMade(t *testing.T) {
	var none *shelf.Shelf
	wantNothing(t, none)
	wantNothing(t, &shelf.Shelf{})
}

func TestHeadIsThatOfTheKeysList(t *testing.T) {
	for lists := 1; lists <= mostLists; lists++ {
		e := entered(t, arena(20, 4, 60), 0)
		s := made(t, e, lists)
		wantNoStep(t, e, func() {
			seen := map[uint64]int{}
			for _, key := range append(ends(), 7, 8, 9, 10, 11, 12, 13) {
				h, is := s.Head(key)
				if want := s.Heads()[place(key, lists)]; !is || h != want {
					t.Fatalf("the list of key %d begins at %#x, %v, not %#x", key, h, is, want)
				}
				seen[h]++
			}
			if len(seen) != lists {
				t.Fatalf("of %d lists are %d", lists, len(seen))
			}
		})
	}
}

func TestHeadsAreTheCallersOwn(t *testing.T) {
	e := entered(t, arena(20, 4, 60), 0)
	s := made(t, e, 5)
	l := s.Heads()
	was := slices.Clone(l)
	for i := range l {
		l[i] = 99
	}
	l = append(l[:0], 1, 2, 3, 4, 5, 6, 7)
	if is := s.Heads(); !slices.Equal(is, was) || s.Lists() != 5 {
		t.Fatalf("the heads are %v, not %v", is, was)
	}
	// Nor does what is added to one answer reach another one.
	a, b := s.Heads(), s.Heads()
	a, b = append(a, 1), append(b, 2)
	if a[5] != 1 || b[5] != 2 {
		t.Fatal(a, b)
	}
	for key := range 40 {
		if h, is := s.Head(key); !is || h != was[place(key, 5)] {
			t.Fatalf("the list of key %d begins at %#x, %v", key, h, is)
		}
		if d := run(t, e, asks(t, s, add, key)); key < 15 && d.Value != 1 {
			t.Fatalf("key %d came to %+v", key, d)
		}
	}
}

func TestNewIsListNewOfTheKeysList(t *testing.T) {
	kinds := []int{math.MinInt, -1 << 32, 1 << 32, 1<<32 + 1, 1<<32 + 3, math.MaxInt}
	for kind := -20; kind <= 20; kind++ {
		kinds = append(kinds, kind)
	}
	for lists := 1; lists <= mostLists; lists++ {
		e := entered(t, arena(20, 4, 60), 0)
		s := made(t, e, lists)
		wantNoStep(t, e, func() {
			for _, kind := range kinds {
				for _, key := range append(ends(), 2, 3, 99) {
					l, err := s.New(kind, key)
					_, want := list.New(kind, key, s.Heads()[place(key, lists)])
					if err != want || (l == nil) != (err != api.OK) {
						t.Fatalf("kind %d, key %d: %v, %v, not %v", kind, key, l, err, want)
					}
					if may := kind >= has && kind <= remove && key >= 0 && key < mostKey; may != (err == api.OK) {
						t.Fatalf("kind %d, key %d: %v", kind, key, err)
					}
				}
			}
		})
	}
}

func TestWhatNewMakesDoesAsOneOfTheList(t *testing.T) {
	// Each step is the one that list.New of the list does in another memory: of each kind, with keys that are there and others.
	for lists := 1; lists <= mostLists; lists++ {
		e, twin := entered(t, arena(40, 9, 60), 2), entered(t, arena(40, 9, 60), 2)
		s := made(t, e, lists)
		heads, _ := nodes(t, twin, lists)
		x := uint64(lists)
		for range 120 {
			var kind, key int
			kind, x = mixed(x, 3)
			key, x = mixed(x, 25)
			a := asks(t, s, 1+kind, key)
			b, _ := list.New(1+kind, key, heads[place(key, lists)])
			for done := false; !done; {
				done = a.Step(e)
				if is := b.Step(twin); is != done || a.Done() != b.Done() {
					t.Fatalf("kind %d, key %d: %v, %+v, not %v, %+v", 1+kind, key, done, a.Done(), is, b.Done())
				}
				if e.Now() != twin.Now() || e.M.Last() != twin.M.Last() {
					t.Fatalf("kind %d, key %d: touched was %v, not %v", 1+kind, key, e.M.Last(), twin.M.Last())
				}
			}
			wantSame(t, e, twin)
		}
	}
}

func TestShelvesAreApart(t *testing.T) {
	e := entered(t, arena(90, 9, 90), 1)
	a, b := made(t, e, 3), made(t, e, 3)
	sets := []map[int]int{{}, {}}
	x := uint64(1)
	for range 300 {
		var kind, key, which int
		kind, x = mixed(x, 3)
		key, x = mixed(x, 12)
		which, x = mixed(x, 2)
		d := run(t, e, asks(t, []*shelf.Shelf{a, b}[which], 1+kind, key))
		if want := once(sets[which], 1+kind, key, d.E); d.Value != want.Value || d.E != api.OK {
			t.Fatalf("kind %d, key %d of %d came to %+v, not %+v", 1+kind, key, which, d, want)
		}
	}
	wantKeys(t, e, a, sets[0])
	wantKeys(t, e, b, sets[1])
}

func TestCallsCantReachWhereListsBegin(t *testing.T) {
	e := entered(t, arena(20, 4, 60), 1)
	s := made(t, e, 4)
	for key := range 9 {
		run(t, e, asks(t, s, add, key))
	}
	l := words(e.M)
	for _, h := range s.Heads() {
		for kind := api.ActFree; kind <= api.ActCas; kind++ {
			if d := did(t, e, api.Act{Kind: kind, Handle: h, Index: 1}); d.E != api.ErrInvalid {
				t.Fatalf("kind %d came to %+v", kind, d)
			}
		}
	}
	if !slices.Equal(words(e.M), l) {
		t.Fatal("the words are others")
	}
}
