package alloc_test

import (
	"testing"

	"footlocker/alloc"
	"footlocker/api"
	"footlocker/layout"
	"footlocker/slot"
)

// elsewhere is the same arena, in which somebody else works.
func elsewhere(e layout.Env) layout.Env {
	e.Who = 2
	return e
}

func TestTheSlotIsTakenMeanwhile(t *testing.T) {
	for ahead := 1; ahead <= 2; ahead++ {
		e := filled(t, arena(4, 2, 40), 0)
		a := alloc.New(3, true)
		wantLook(t, e, a, topAt)
		if ahead == 2 {
			wantLook(t, e, a, slotAt(e.C, 0)+1)
		}
		if x := wantMade(t, elsewhere(e), 4, false); x.slot != 0 {
			t.Fatal(x)
		}
		if ahead == 1 {
			wantLook(t, e, a, slotAt(e.C, 0)+1)
		}
		// In vain: the first free slot is another one.
		wantLook(t, e, a, topAt)
		if x := wantRest(t, e, a, 3, true, wantTaken(t, e, a)); x.slot != 1 || x.gen != lifeOf(1) {
			t.Error(x)
		}
	}
}

func TestTheLastSlotIsTakenMeanwhile(t *testing.T) {
	e := filled(t, arena(1, 2, 40), 0)
	a := alloc.New(3, true)
	wantLook(t, e, a, topAt)
	wantLook(t, e, a, slotAt(e.C, 0)+1)
	wantMade(t, elsewhere(e), 4, false)
	wantLook(t, e, a, topAt)
	wantStep(t, e, a, touch{topAt, e.M.Peek(topAt)}, true)
	wantDone(t, a, api.Done{E: api.ErrHandles, Stamp: e.Now()})
}

func TestWordsAreGotMeanwhile(t *testing.T) {
	e := filled(t, arena(4, 2, 40), 0)
	wantMade(t, e, 8, false)
	a := alloc.New(7, true)
	s := wantTaken(t, e, a)
	wantSeen(t, e, a, 2)
	other := wantMade(t, elsewhere(e), 8, false)
	// In vain: what is used is more.
	wantLook(t, e, a, chunkAt(e.C, 0))
	if x := wantRest(t, e, a, 7, true, s); x.spot.Addr != other.spot.Addr+9 || x.slot != 1 || other.slot != 2 {
		t.Error(x, other)
	}
}

func TestTheLastRoomIsTakenMeanwhile(t *testing.T) {
	e := filled(t, arena(4, 1, 20), 0)
	wantMade(t, e, 8, false)
	a := alloc.New(8, true)
	s := wantTaken(t, e, a)
	wantSeen(t, e, a, 2)
	other := wantMade(t, elsewhere(e), 8, false)
	wantLook(t, e, a, chunkAt(e.C, 0))
	wantSeen(t, e, a, 2)
	wantLook(t, e, a, chunkAt(e.C, 0))
	wantGiven(t, e, a, s)
	// Its slot is the first one again, though a later one was taken.
	if s != 1 || other.slot != 2 {
		t.Error(s, other)
	}
	wantFree(t, e, 1, 3)
}

func TestSlotsAreTakenWhileOneIsGivenBack(t *testing.T) {
	for ahead := range 3 {
		e := filled(t, arena(5, 1, 40), 0)
		wantMade(t, e, 4, false)
		a := alloc.New(8, true)
		s := wantTaken(t, e, a)
		wantSeen(t, e, a, 2)
		wantLook(t, e, a, chunkAt(e.C, 0))
		if ahead > 0 {
			wantLook(t, e, a, topAt)
		}
		if ahead > 1 {
			wantOn(t, e, a, slotAt(e.C, s)+1, top(2, 0))
		}
		other := wantMade(t, elsewhere(e), 4, false)
		if ahead == 1 {
			wantOn(t, e, a, slotAt(e.C, s)+1, top(2, 0))
		}
		if ahead > 0 {
			// In vain: the first free slot is another one.
			wantLook(t, e, a, topAt)
		}
		wantGiven(t, e, a, s)
		if s != 1 || other.slot != 2 {
			t.Error(s, other)
		}
		wantFree(t, e, 1, 3, 4)
	}
}

func TestThereIsRoomAgainWhileTheSlotIsGivenBack(t *testing.T) {
	// It was refused, and is: nothing begins anew.
	e := filled(t, arena(2, 1, 20), 0)
	e.M.Store(chunkAt(e.C, 0), chunk(evac, 1, 20, 4))
	a := alloc.New(8, true)
	s := wantTaken(t, e, a)
	wantSeen(t, e, a, 2)
	wantLook(t, e, a, chunkAt(e.C, 0))
	e.M.Store(chunkAt(e.C, 0), chunk(free, 0, 0, 6))
	wantGiven(t, e, a, s)
	wantMade(t, e, 8, true)
}

func TestTheChunkIsAnotherOneBehindTheWords(t *testing.T) {
	// They are its own from the step on by which they were got, whatever the chunk's state, and though another one be open.
	for _, w := range []uint64{chunk(evac, 1, 5, 2), chunk(open, 1, 5, 3), chunk(open, 1, 40, 1)} {
		e := filled(t, arena(4, 3, 40), 0)
		a := alloc.New(4, false)
		s := wantTaken(t, e, a)
		spot := wantWords(t, e, a, 1)
		e.M.Store(chunkAt(e.C, 0), w)
		e.M.Store(openAt(1), 3)
		x := thing{4, false, s, lifeOf(s), spot}
		wantReady(t, e, a, x, wantShown(t, e, a, x))
		if wordOf(e, 0) != w {
			t.Error("the chunk's word is changed")
		}
	}
}

func TestWhatLivesIsOtherwiseMeanwhile(t *testing.T) {
	// It is added to, not laid: what others count stays.
	e := filled(t, arena(4, 3, 40), 0)
	a := alloc.New(4, false)
	s := wantTaken(t, e, a)
	x := thing{4, false, s, lifeOf(s), wantWords(t, e, a, 1)}
	other := wantMade(t, elsewhere(e), 3, false)
	at := chunkAt(e.C, 0) + 1
	if was := uint64(1<<60 + at + 5); e.M.Peek(at) != was || other.spot.Chunk != 0 {
		t.Fatal(e.M.Peek(at), other)
	}
	wantReady(t, e, a, x, wantShown(t, e, a, x))
	if e.M.Peek(at) != uint64(1<<60+at+10) {
		t.Error(e.M.Peek(at))
	}
	// An object that goes takes its words away.
	e.M.Store(at, 1<<20)
	b := alloc.New(4, false)
	s = wantTaken(t, e, b)
	x = thing{4, false, s, lifeOf(s), wantWords(t, e, b, 1)}
	e.M.Store(at, 3)
	wantReady(t, e, b, x, wantShown(t, e, b, x))
	if e.M.Peek(at) != 8 {
		t.Error(e.M.Peek(at))
	}
}

func TestOthersStepBetweenTheLastTwo(t *testing.T) {
	// Stamp is the step by which the handle's word was laid, though it ends later.
	e := filled(t, arena(6, 3, 40), 0)
	a := alloc.New(4, false)
	s := wantTaken(t, e, a)
	x := thing{4, false, s, lifeOf(s), wantWords(t, e, a, 1)}
	shown := wantShown(t, e, a, x)
	wantMade(t, elsewhere(e), 4, false)
	wantMade(t, elsewhere(e), 16, false)
	if shown > e.Now()-20 {
		t.Fatal("nobody stepped")
	}
	wantReady(t, e, a, x, shown)
}

func TestOthersStepAheadOfEachStep(t *testing.T) {
	// By whomever it is held up, it makes the same object, and tells the step of its own.
	e := filled(t, arena(40, 3, 200), 0)
	a := alloc.New(4, true)
	wantMade(t, elsewhere(e), 16, false)
	s := wantTaken(t, e, a)
	wantMade(t, elsewhere(e), 16, false)
	spot := wantWords(t, e, a, 1)
	wantMade(t, elsewhere(e), 16, false)
	x := thing{4, true, s, lifeOf(s), spot}
	at := chunkAt(e.C, x.spot.Chunk) + 1
	wantOn(t, e, a, at, e.M.Peek(at)+5)
	wantMade(t, elsewhere(e), 16, false)
	wantOn(t, e, a, spot.Addr, head(pending, 4, s, x.gen, true))
	wantMade(t, elsewhere(e), 16, false)
	wantOn(t, e, a, slotAt(e.C, s), slotWord(live, spot.Addr, x.gen, 0))
	shown := e.Now()
	wantMade(t, elsewhere(e), 16, false)
	wantReady(t, e, a, x, shown)
}

func TestAnErrorsStepIsTheLastOne(t *testing.T) {
	e := filled(t, arena(3, 1, 20), 0)
	wantMade(t, e, 16, false)
	// No class: how many steps were done till then, whoever did them.
	for range 3 {
		wantNoRoom(t, elsewhere(e), 1)
		a := alloc.New(17, false)
		wantNoRoom(t, elsewhere(e), 1)
		a.Step(e)
		now := e.Now()
		wantNoRoom(t, elsewhere(e), 1)
		wantDone(t, a, api.Done{E: api.ErrSize, Stamp: now})
	}
	// No room: the step that gave the slot back.
	a := alloc.New(2, false)
	s := wantTaken(t, e, a)
	wantSeen(t, e, a, 0)
	wantNoRoom(t, elsewhere(e), 1)
	wantLook(t, e, a, chunkAt(e.C, 0))
	wantNoRoom(t, elsewhere(e), 1)
	wantGiven(t, e, a, s)
	now := e.Now()
	wantNoRoom(t, elsewhere(e), 1)
	wantDone(t, a, api.Done{E: api.ErrMemory, Stamp: now})
	// No slot: the step that found none.
	for range 2 {
		k := &slot.Take{}
		for !k.Step(elsewhere(e)) {
		}
	}
	b := alloc.New(2, false)
	b.Step(e)
	now = e.Now()
	wantNoHandle(t, elsewhere(e), 1)
	wantDone(t, b, api.Done{E: api.ErrHandles, Stamp: now})
}

func TestTheSlotIsInAnotherLifeTillItsWordIsLoaded(t *testing.T) {
	// Its life is seen behind its being taken: not ahead of it, and not later.
	e := filled(t, arena(2, 1, 20), 0)
	a := alloc.New(2, false)
	for range 3 {
		a.Step(e)
	}
	e.M.Store(slotAt(e.C, 0), slotWord(free, 0, 77, 0))
	wantLook(t, e, a, slotAt(e.C, 0))
	e.M.Store(slotAt(e.C, 0), slotWord(free, 0, 78, 0))
	x := thing{size: 2, gen: 77, spot: wantWords(t, e, a, 0)}
	wantReady(t, e, a, x, wantShown(t, e, a, x))
}
