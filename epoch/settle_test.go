package epoch_test

import (
	"testing"

	"footlocker/alloc"
	"footlocker/api"
	"footlocker/drop"
	"footlocker/epoch"
	"footlocker/layout"
	"footlocker/place"
)

// mostStamp is the greatest Stamp that fits.
const mostStamp = 1<<36 - 1

// beyond is whether an epoch is Grace or more beyond another one.
func beyond(now, since uint64) bool {
	return now > since && now-since != 1
}

// wantSeen asks for the three steps that ask whether a chunk's time has come, behind which it goes on.
func wantSeen(t *testing.T, e layout.Env, s settler, i int) {
	t.Helper()
	wantLook(t, e, s, chunkAt(e.C, i))
	wantLook(t, e, s, sinceAt(e.C, i))
	wantLook(t, e, s, epochAt)
}

// wantFreed asks for the steps behind these, by which a chunk of which so many words were given out is free.
func wantFreed(t *testing.T, e layout.Env, s settler, i, used int, stamp uint64) {
	t.Helper()
	for k := range used {
		wantOn(t, e, s, touch{baseAt(e.C, i) + k, 0})
	}
	wantOn(t, e, s, touch{liveAt(e.C, i), 0})
	wantStep(t, e, s, touch{chunkAt(e.C, i), chunk(free, 0, 0, stamp+1)}, true, true)
	wantOver(t, e, s)
}

// wantSettled asks that one who begins now, and whom nobody disturbs, lets a chunk be free just if it is Quiet, and its time has come, step by step.
func wantSettled(t *testing.T, e layout.Env, i int, w, since, now uint64) {
	t.Helper()
	lay(e, i, w, since)
	e.M.Store(epochAt, now)
	s := newSettler(i)
	switch {
	case stateOf(w) != quiet:
		wantVain(t, e, s, chunkAt(e.C, i))
	case !beyond(now, since):
		wantLook(t, e, s, chunkAt(e.C, i))
		wantLook(t, e, s, sinceAt(e.C, i))
		wantVain(t, e, s, epochAt)
	default:
		wantSeen(t, e, s, i)
		wantFreed(t, e, s, i, usedOf(w), stampOf(w))
		return
	}
	wantOver(t, e, s)
}

func TestAChunkSettles(t *testing.T) {
	e := entered(t, arena(2, 4, 20), api.Compactor)
	lay(e, 2, chunk(quiet, 1, 5, 8), 3)
	e.M.Store(liveAt(e.C, 2), 5)
	for k := range 5 {
		e.M.Store(baseAt(e.C, 2)+k, 9)
	}
	e.M.Store(epochAt, 5)
	now := e.Now()
	s := epoch.NewSettle(2)
	for i := range 10 {
		if s.Freed() || s.Step(e) != (i == 9) {
			t.Fatalf("step %d: done is not %v", i+1, i == 9)
		}
	}
	if !s.Freed() || e.Now() != now+10 {
		t.Error(s.Freed(), e.Now()-now)
	}
	for a := chunkAt(e.C, 0); a < e.M.Len(); a++ {
		want := uint64(0)
		switch a {
		case chunkAt(e.C, 2):
			want = 9 << 28
		case sinceAt(e.C, 2):
			want = 3
		}
		if w := e.M.Peek(a); w != want {
			t.Errorf("word %d is %#x, not %#x", a, w, want)
		}
	}
}

func TestGrace(t *testing.T) {
	if api.Grace != grace {
		t.Error(api.Grace)
	}
}

func TestAChunkInEachState(t *testing.T) {
	for state := range 4 {
		for _, class := range []int{0, 1, 2, 3, 4, 63} {
			for _, used := range []int{0, 1, 3, 16, 17} {
				for now := uint64(4); now < 10; now++ {
					e := filled(t, arena(2, 2, 17), 0)
					wantSettled(t, e, 1, chunk(state, class, used, 40), 5, now)
				}
			}
		}
	}
}

func TestEachManyWordsOfEachChunk(t *testing.T) {
	for _, words := range []int{17, 18, 20} {
		for chunks := 1; chunks <= 4; chunks++ {
			for i := range chunks {
				for used := range words + 1 {
					e := filled(t, arena(3, chunks, words), 0)
					wantSettled(t, e, i, chunk(quiet, 2, used, 7), 1, 3)
				}
			}
		}
	}
}

func TestTheGreatestArena(t *testing.T) {
	c := arena(api.MostThreads, api.MostChunks, api.MostChunk)
	for _, i := range []int{0, 1, api.MostChunks - 1} {
		for _, used := range []int{0, 1, api.MostChunk - 1, api.MostChunk} {
			wantSettled(t, filled(t, c, 0), i, chunk(quiet, 3, used, 7), 1, 3)
		}
	}
	c.Slots = api.MostSlots
	e := filled(t, c, 4)
	lay(e, 63, chunk(quiet, 3, 256, 7), 2)
	now := e.Now()
	if !wantEnd(t, e, newSettler(63)) || e.Now() != now+3+256+2 {
		t.Error(e.Now() - now)
	}
	for k := range 256 {
		if e.M.Peek(baseAt(c, 62)+k) == 0 || e.M.Peek(baseAt(c, 63)+k) != 0 {
			t.Fatal(k)
		}
	}
}

func TestEachTime(t *testing.T) {
	// Evacuated in any epoch: right below, at and right above Grace, and wherever else the epoch is.
	for _, since := range epochs() {
		for _, now := range append(epochs(), since-3, since-2, since-1, since, since+1, since+2, since+3, since+4, since+1<<32, since+1<<63, since+1+1<<63) {
			for _, state := range []int{quiet, evac} {
				e := filled(t, arena(1, 2, 17), 0)
				wantSettled(t, e, 0, chunk(state, 1, 5, 9), since, now)
			}
		}
	}
}

func TestTheEpochThatWrappedRoundIsNotBeyond(t *testing.T) {
	for since := all - 1; since != 4; since++ {
		for _, now := range []uint64{0, 1, 2, 3} {
			e := filled(t, arena(1, 2, 17), 0)
			lay(e, 0, chunk(quiet, 1, 5, 9), since)
			e.M.Store(epochAt, now)
			if got := wantEnd(t, e, newSettler(0)); got != (since < 4 && now >= since+2) {
				t.Errorf("evacuated in %d, and now it is %d: %v", since, now, got)
			}
		}
	}
}

func TestEachStamp(t *testing.T) {
	for _, stamp := range []uint64{0, 1, 2, 1000, 1 << 16, 1<<31 - 1, 1 << 32, 1<<35 - 1, mostStamp - 1} {
		e := filled(t, arena(1, 2, 17), 0)
		wantSettled(t, e, 1, chunk(quiet, 3, 17, stamp), 0, 2)
	}
}

func TestTheGreatestStampStays(t *testing.T) {
	e := filled(t, arena(1, 2, 17), 0)
	lay(e, 1, chunk(quiet, 3, 1, mostStamp), 0)
	e.M.Store(epochAt, 2)
	s := newSettler(1)
	wantSeen(t, e, s, 1)
	wantFreed(t, e, s, 1, 1, mostStamp-1)
}

func TestWordsThatAreBeyondTheChunk(t *testing.T) {
	// A chunk's word that nobody lays so: what stands behind its end is another one's.
	for _, used := range []int{18, 19, 34, 35, 256, 1<<20 - 1} {
		for i := range 3 {
			e := filled(t, arena(1, 3, 17), 4)
			lay(e, i, chunk(quiet, 0, used, 6), 2)
			s := newSettler(i)
			wantSeen(t, e, s, i)
			wantFreed(t, e, s, i, 17, 6)
		}
	}
}

func TestHowManyLiveDoesNotCount(t *testing.T) {
	for _, live := range []uint64{0, 1, 5, 17, 18, 1 << 20, 1 << 63, all} {
		e := filled(t, arena(2, 2, 17), 0)
		e.M.Store(liveAt(e.C, 0), live)
		wantSettled(t, e, 0, chunk(quiet, 1, 5, 1), 0, 2)
	}
}

func TestPinsDoNotCount(t *testing.T) {
	// Whoever is pinned keeps the epoch from going on, and that is all that is asked.
	for _, pin := range []uint64{0, 1, 2, 3, 4, all} {
		e := filled(t, arena(2, 2, 17), 0)
		e.M.Store(pinAt(0), pin)
		e.M.Store(pinAt(1), pin)
		wantSettled(t, e, 0, chunk(quiet, 1, 5, 1), 0, 2)
	}
}

func TestWordsThatAreNoughtsAreLaidToo(t *testing.T) {
	e := entered(t, arena(2, 3, 17), api.Compactor)
	wantSettled(t, e, 1, chunk(quiet, 1, 10, 1), 0, 2)
}

func TestTheEpochGoesOnMeanwhile(t *testing.T) {
	// What was loaded counts: it goes on ahead of the third step, or too late.
	for ahead := range 8 {
		e := filled(t, arena(2, 2, 17), 6)
		lay(e, 1, chunk(quiet, 1, 3, 9), 5)
		s := newSettler(1)
		for k, at := range []int{chunkAt(e.C, 1), sinceAt(e.C, 1)} {
			if k == ahead {
				e.M.Add(epochAt, 1)
			}
			wantLook(t, e, s, at)
		}
		if ahead == 2 {
			e.M.Add(epochAt, 1)
		}
		if ahead > 2 {
			wantVain(t, e, s, epochAt)
			e.M.Add(epochAt, 1)
			wantOver(t, e, s)
			continue
		}
		wantLook(t, e, s, epochAt)
		wantFreed(t, e, s, 1, 3, 9)
	}
}

func TestTheEpochIsNotLoadedTwice(t *testing.T) {
	// Behind that step its time has come, whatever the epoch is then.
	for behind := range 5 {
		e := filled(t, arena(2, 2, 17), 7)
		lay(e, 1, chunk(quiet, 1, 3, 9), 5)
		s := newSettler(1)
		wantSeen(t, e, s, 1)
		for k := range 3 {
			if k == behind {
				e.M.Store(epochAt, 0)
			}
			wantOn(t, e, s, touch{baseAt(e.C, 1) + k, 0})
		}
		if behind >= 3 {
			e.M.Store(epochAt, 0)
		}
		wantOn(t, e, s, touch{liveAt(e.C, 1), 0})
		wantStep(t, e, s, touch{chunkAt(e.C, 1), chunk(free, 0, 0, 10)}, true, true)
	}
}

func TestAChunkIsQuietMeanwhile(t *testing.T) {
	// Ahead of the first step that is seen; behind it, it waits for the next one that looks.
	for _, state := range []int{free, open, evac} {
		e := filled(t, arena(2, 2, 17), 7)
		lay(e, 0, chunk(state, 1, 3, 9), 5)
		s := newSettler(0)
		lay(e, 0, chunk(quiet, 1, 3, 10), 5)
		wantSeen(t, e, s, 0)
		wantFreed(t, e, s, 0, 3, 10)

		lay(e, 1, chunk(state, 1, 3, 9), 5)
		s = newSettler(1)
		wantVain(t, e, s, chunkAt(e.C, 1))
		lay(e, 1, chunk(quiet, 1, 3, 10), 5)
		wantOver(t, e, s)
		wantSettled(t, e, 1, wordOf(e, 1), 5, 7)
	}
}

func TestAChunkIsFreeOnce(t *testing.T) {
	e := filled(t, arena(2, 2, 17), 0)
	wantSettled(t, e, 0, chunk(quiet, 1, 5, 9), 0, 2)
	wantSettled(t, e, 0, wordOf(e, 0), 0, 2)
	wantSettled(t, e, 0, wordOf(e, 0), 0, 9)
}

func TestChunksInTurn(t *testing.T) {
	// Each goes by its own word and its own epoch.
	e := filled(t, arena(2, 6, 17), 9)
	since := []uint64{9, 7, 8, 0, 10, 6}
	for i, k := range since {
		lay(e, i, chunk(quiet, i%4, 3*i, uint64(i)), k)
	}
	for now := uint64(9); now < 14; now++ {
		for i, k := range since {
			wantSettled(t, e, i, wordOf(e, i), k, now)
			if stateOf(wordOf(e, i)) == free != (now >= k+2) {
				t.Errorf("chunk %d in epoch %d: %#x", i, now, wordOf(e, i))
			}
		}
	}
}

func TestTwoSettlesShareNothing(t *testing.T) {
	e := filled(t, arena(2, 2, 17), 9)
	lay(e, 0, chunk(quiet, 1, 5, 9), 0)
	lay(e, 1, chunk(quiet, 2, 9, 3), 1)
	a, b := newSettler(0), newSettler(1)
	wantSeen(t, e, a, 0)
	wantSeen(t, e, b, 1)
	wantOn(t, e, a, touch{baseAt(e.C, 0), 0})
	wantFreed(t, e, b, 1, 9, 3)
	// A copy goes its own way.
	other := *a.Settle
	wantOn(t, e, a, touch{baseAt(e.C, 0) + 1, 0})
	wantOn(t, e, a, touch{baseAt(e.C, 0) + 2, 0})
	wantOn(t, e, settler{&other}, touch{baseAt(e.C, 0) + 1, 0})
	wantOn(t, e, a, touch{baseAt(e.C, 0) + 3, 0})
}

func TestWhoIsDoneLetsTheChunkBe(t *testing.T) {
	// Once it is free, another one takes it: its words are that one's.
	e := filled(t, arena(2, 1, 17), 0)
	s := newSettler(0)
	lay(e, 0, chunk(quiet, 1, 5, 9), 0)
	e.M.Store(epochAt, 2)
	wantSeen(t, e, s, 0)
	wantFreed(t, e, s, 0, 5, 9)
	e.M.Store(layout.Open(2), 0)
	p := place.New(2)
	for !p.Step(e) {
	}
	if spot, is := p.Spot(); !is || spot.Addr != baseAt(e.C, 0) {
		t.Fatal(spot, is)
	}
	e.M.Store(baseAt(e.C, 0), 77)
	wantOver(t, e, s)
	if wordOf(e, 0) != chunk(open, 2, 9, 11) {
		t.Errorf("%#x", wordOf(e, 0))
	}
}

func TestObjectsAreMadeInAChunkThatWasFreed(t *testing.T) {
	// Objects are made and let go, till there is no room; then the chunk is evacuated, and is free: what is made there is noughts again.
	c := arena(1, 1, 17)
	c.Gens = 1000
	e := entered(t, c, 0)
	for life := range 12 {
		size := 1 + life%api.MostSize
		for made := 0; ; made++ {
			a := alloc.New(size, false)
			for !a.Step(e) {
			}
			d := a.Done()
			if d.E == api.ErrMemory && made > 0 {
				break
			}
			if d.E != api.OK {
				t.Fatal(life, made, d)
			}
			at := int(e.M.Peek(pinAt(1)+2*int(d.Handle&(1<<16-1))) >> 3 & (1<<20 - 1))
			for k := range size {
				if w := e.M.Peek(at + 1 + k); w != 0 {
					t.Fatalf("word %d of an object is %#x", k, w)
				}
				e.M.Store(at+1+k, uint64(77+k))
			}
			g := drop.New(d.Handle, false)
			for !g.Step(e) {
			}
		}
		w := wordOf(e, 0)
		lay(e, 0, chunk(quiet, 0, usedOf(w), stampOf(w)+2), e.M.Peek(epochAt))
		for tries := 0; !wantEnd(t, e, newSettler(0)); tries++ {
			if tries == grace || !wantEnd(t, e, newGoer()) {
				t.Fatal("it is not free")
			}
		}
	}
}
