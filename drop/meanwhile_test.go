package drop_test

import (
	"testing"

	"footlocker/alloc"
	"footlocker/api"
	"footlocker/drop"
	"footlocker/slot"
)

func TestAnObjectThatIsBeingLetGo(t *testing.T) {
	// That is helped, and all begins anew: then it lives no more.
	for size := 1; size <= api.MostSize; size++ {
		for _, own := range []bool{false, true} {
			e := filled(t, arena(4, 3, 40), 2)
			x := object(e.C, size, own)
			x.state, x.ver = dropping, 5
			lay(e, x)
			d := drop.New(x.number(), own)
			wantSeen(t, e, d, x)
			wantFrozen(t, e, d, x, 0, 5)
			wantEnded(t, e, d, x)
			at := slotAt(e.C, 1)
			wantStep(t, e, d, at, e.M.Peek(at), true)
			wantDone(t, d, api.Done{E: api.ErrInvalid, Stamp: e.Now()})
			// Its words, and its slot, are left to the one who marked it.
			wantFree(t, e, 0, 2, 3)
		}
	}
}

func TestTheWordIsAnotherOneMeanwhile(t *testing.T) {
	// Between the slot's word and the Cas: all begins anew, by what is there then.
	for ahead := 1; ahead <= 2; ahead++ {
		for _, to := range []thing{
			{state: moving, ver: 0},
			{state: live, ver: 1},
			{state: moving, ver: 1},
		} {
			e, x := placed(t, 4, false)
			d := drop.New(x.number(), false)
			wantLook(t, e, d, slotAt(e.C, 1))
			if ahead == 2 {
				wantLook(t, e, d, x.addr)
			}
			y := x
			y.state, y.ver = to.state, to.ver
			e.M.Store(slotAt(e.C, 1), y.word())
			if ahead == 1 {
				wantLook(t, e, d, x.addr)
			}
			// In vain.
			wantLook(t, e, d, slotAt(e.C, 1))
			wantMarked(t, e, d, y)
			wantFrozen(t, e, d, y, 0, y.ver+1)
			wantGiven(t, e, d, y, wantEnded(t, e, d, y))
		}
	}
}

func TestTheObjectIsMovedMeanwhile(t *testing.T) {
	// It stands elsewhere, in another chunk: that one's words live no more, and the words from which it was moved stay as they are.
	for ahead := 1; ahead <= 2; ahead++ {
		e, x := placed(t, 4, true)
		d := drop.New(x.number(), true)
		wantLook(t, e, d, slotAt(e.C, 1))
		if ahead == 2 {
			wantLook(t, e, d, x.addr)
		}
		y := x
		y.ver, y.chunk, y.addr = 1, 2, baseAt(e.C, 2)+7
		lay(e, y)
		if ahead == 1 {
			wantLook(t, e, d, x.addr)
		}
		wantLook(t, e, d, slotAt(e.C, 1))
		wantMarked(t, e, d, y)
		wantFrozen(t, e, d, y, 0, 2)
		wantGiven(t, e, d, y, wantEnded(t, e, d, y))
	}
}

func TestTheObjectIsLetGoMeanwhile(t *testing.T) {
	// By another one, who is done by then: ErrInvalid, at the step that saw it.
	for ahead := 1; ahead <= 2; ahead++ {
		e, x := placed(t, 4, false)
		d := drop.New(x.number(), false)
		wantLook(t, e, d, slotAt(e.C, 1))
		if ahead == 2 {
			wantLook(t, e, d, x.addr)
		}
		wantDropped(t, elsewhere(e), x)
		if ahead == 1 {
			wantLook(t, e, d, x.addr)
		}
		at := slotAt(e.C, 1)
		wantLook(t, e, d, at)
		wantStep(t, e, d, at, e.M.Peek(at), true)
		wantDone(t, d, api.Done{E: api.ErrInvalid, Stamp: e.Now()})
		wantFree(t, e, 1, 0, 2, 3)
	}
}

func TestTheSlotIsUsedAgainMeanwhile(t *testing.T) {
	// Another object, by another handle, stands there: it lives on.
	e, x := placed(t, 4, false)
	d := drop.New(x.number(), false)
	wantSeen(t, e, d, x)
	wantDropped(t, elsewhere(e), x)
	y := x
	y.gen++
	lay(e, y)
	at := slotAt(e.C, 1)
	wantLook(t, e, d, at)
	wantStep(t, e, d, at, e.M.Peek(at), true)
	wantDone(t, d, api.Done{E: api.ErrInvalid, Stamp: e.Now()})
	wantDropped(t, e, y)
}

func TestAnotherOneMarksItMeanwhile(t *testing.T) {
	// The other one goes on no more: it is brought to its end by this one, who is told ErrInvalid, and then by the other one, who was told nothing yet.
	for frozen := range 5 {
		e, x := placed(t, 4, false)
		other, d := drop.New(x.number(), false), drop.New(x.number(), false)
		wantSeen(t, e, d, x)
		wantMarked(t, elsewhere(e), other, x)
		first := x
		first.size = frozen
		wantFrozen(t, elsewhere(e), other, first, 0, 1)
		wantLook(t, e, d, slotAt(e.C, 1))
		wantSeen(t, e, d, x)
		wantFrozen(t, e, d, x, 0, 1)
		stamp := wantEnded(t, e, d, x)
		at := slotAt(e.C, 1)
		wantStep(t, e, d, at, e.M.Peek(at), true)
		wantDone(t, d, api.Done{E: api.ErrInvalid, Stamp: stamp + 1})
		wantFree(t, e, 0, 2, 3)
		for k := frozen; k < 4; k++ {
			wantLook(t, elsewhere(e), other, x.addr+1+k)
		}
		wantLook(t, elsewhere(e), other, at)
		wantGiven(t, elsewhere(e), other, x, stamp)
		wantFree(t, e, 1, 0, 2, 3)
	}
}

func TestWhoeverHelpedTheStepIsThatOfTheWord(t *testing.T) {
	// Somebody helps, from any of its steps on; others work long behind that.
	for size := 1; size <= api.MostSize; size++ {
		for ahead := 3; ahead <= 3+2*size; ahead++ {
			e, x := placed(t, size, true)
			d := drop.New(x.number(), true)
			for range ahead {
				d.Step(e)
			}
			h := drop.NewHelp(1, x.marked(), size)
			for !h.Step(elsewhere(e)) {
			}
			stamp := e.Now()
			if !h.Won() {
				t.Fatal("it did not end by its step")
			}
			for range 20 {
				wantNone(t, elsewhere(e), handle(0, 5), false)
			}
			for !d.Step(e) {
			}
			wantDone(t, d, api.Done{Stamp: stamp})
			if e.M.Peek(slotAt(e.C, 1)) != behind(e.C, x.gen) || e.Now() < stamp+24 {
				t.Fatal("it is not let go")
			}
			wantFree(t, e, 1, 0, 2, 3)
		}
	}
}

func TestWhoeverHelpedALastLife(t *testing.T) {
	e := filled(t, arena(4, 3, 40), 2)
	x := object(e.C, 4, false)
	x.gen = gens
	lay(e, x)
	d := drop.New(x.number(), false)
	wantMarked(t, e, d, x)
	h := drop.NewHelp(1, x.marked(), 4)
	for !h.Step(elsewhere(e)) {
	}
	stamp := e.Now()
	for k := range 4 {
		wantLook(t, e, d, x.addr+1+k)
	}
	wantLook(t, e, d, slotAt(e.C, 1))
	wantGiven(t, e, d, x, stamp)
	wantFree(t, e, 0, 2, 3)
}

func TestCellsAreLaidMeanwhile(t *testing.T) {
	// Nothing that was laid is lost: it is frozen as it is then.
	for k := range 4 {
		e, x := placed(t, 4, false)
		d := drop.New(x.number(), false)
		wantMarked(t, e, d, x)
		first := x
		first.size = k
		wantFrozen(t, e, d, first, 0, 1)
		for i := range uint64(3) {
			wantLook(t, e, d, x.addr+1+k)
			e.M.Store(x.addr+1+k, 70+i)
			wantLook(t, e, d, x.addr+1+k)
		}
		wantFrozen(t, e, d, x, k, 1)
		if w := e.M.Peek(x.addr + 1 + k); w != frozen(72, 1) {
			t.Fatalf("the cell is %#x", w)
		}
		wantGiven(t, e, d, x, wantEnded(t, e, d, x))
	}
}

func TestACellThatWasSeenCanBeLaidNoMore(t *testing.T) {
	// Who loaded a cell ahead of its being frozen exchanges it in vain, from that step on.
	e, x := placed(t, 4, false)
	var seen []uint64
	for k := range 4 {
		seen = append(seen, e.M.Peek(x.addr+1+k))
	}
	wantDropped(t, e, x)
	for k, w := range seen {
		if elsewhere(e).Cas(x.addr+1+k, w, 5) {
			t.Errorf("cell %d was laid", k)
		}
	}
}

func TestWhatLivesIsOtherwiseMeanwhile(t *testing.T) {
	// It is taken away, not laid: what others count stays; below 0 it wraps round till they count theirs.
	for _, lives := range []uint64{5, 6, 1000, 4, 0, 1<<64 - 1} {
		e, x := placed(t, 4, false)
		d := drop.New(x.number(), false)
		wantMarked(t, e, d, x)
		wantFrozen(t, e, d, x, 0, 1)
		stamp := wantEnded(t, e, d, x)
		e.M.Store(chunkAt(e.C, 1)+1, lives)
		wantGiven(t, e, d, x, stamp)
		if w := e.M.Peek(chunkAt(e.C, 1) + 1); w+5 != lives {
			t.Errorf("of %d are left %d", lives, w)
		}
	}
}

func TestSlotsAreTakenWhileOneIsGivenBack(t *testing.T) {
	for ahead := range 3 {
		e, x := placed(t, 4, false)
		d := drop.New(x.number(), false)
		wantMarked(t, e, d, x)
		wantFrozen(t, e, d, x, 0, 1)
		stamp := wantEnded(t, e, d, x)
		lives := chunkAt(e.C, 1) + 1
		wantOn(t, e, d, lives, e.M.Peek(lives)-5)
		if ahead > 0 {
			wantLook(t, e, d, topAt)
		}
		if ahead > 1 {
			wantOn(t, e, d, slotAt(e.C, 1)+1, top(0, 0))
		}
		k := &slot.Take{}
		for !k.Step(elsewhere(e)) {
		}
		if ahead == 1 {
			wantOn(t, e, d, slotAt(e.C, 1)+1, top(0, 0))
		}
		if ahead > 0 {
			// In vain: the first free slot is another one.
			wantLook(t, e, d, topAt)
		}
		w := e.M.Peek(topAt)
		wantLook(t, e, d, topAt)
		wantOn(t, e, d, slotAt(e.C, 1)+1, top(2, 0))
		wantStep(t, e, d, topAt, top(1, countOf(w)+1), true)
		wantDone(t, d, api.Done{Stamp: stamp})
		wantFree(t, e, 1, 2, 3)
	}
}

func TestTheHeadIsSeenWithEachWord(t *testing.T) {
	// All begins anew with the head, too: what stands elsewhere may not be Own as is said, or of another size.
	e, x := placed(t, 4, false)
	d := drop.New(x.number(), false)
	wantSeen(t, e, d, x)
	y := x
	y.ver, y.size = 1, 2
	lay(e, y)
	wantLook(t, e, d, slotAt(e.C, 1))
	wantMarked(t, e, d, y)
	wantFrozen(t, e, d, y, 0, 2)
	wantGiven(t, e, d, y, wantEnded(t, e, d, y))

	e, x = placed(t, 4, false)
	d = drop.New(x.number(), false)
	wantSeen(t, e, d, x)
	y = x
	y.ver, y.own = 1, true
	lay(e, y)
	wantLook(t, e, d, slotAt(e.C, 1))
	wantLook(t, e, d, slotAt(e.C, 1))
	wantStep(t, e, d, x.addr, e.M.Peek(x.addr), true)
	wantDone(t, d, api.Done{E: api.ErrInvalid, Stamp: e.Now()})
	wantDropped(t, e, y)
}

func TestAnErrorsStepIsTheLastOne(t *testing.T) {
	e, x := placed(t, 4, false)
	other := func() { wantNone(t, elsewhere(e), handle(0, 9), false) }
	// No handle: how many steps were done till then, whoever did them.
	d := drop.New(7, false)
	other()
	d.Step(e)
	now := e.Now()
	other()
	wantDone(t, d, api.Done{E: api.ErrInvalid, Stamp: now})
	// Not Own as is said: the step that loaded the head.
	d = drop.New(x.number(), true)
	d.Step(e)
	other()
	d.Step(e)
	now = e.Now()
	other()
	wantDone(t, d, api.Done{E: api.ErrInvalid, Stamp: now})
	// Another life: the step that loaded the slot's word.
	d = drop.New(handle(1, 4), false)
	other()
	d.Step(e)
	now = e.Now()
	other()
	wantDone(t, d, api.Done{E: api.ErrInvalid, Stamp: now})
}

func TestAnObjectIsLetGoAheadOfItsBeingReady(t *testing.T) {
	// By the step that shows it, it lives; who makes it lays its head once more, and touches nothing else of it.
	e := entered(t, arena(2, 2, 20), 0)
	a := alloc.New(2, false)
	for range 14 {
		a.Step(e)
	}
	x := found(e, 65536)
	wantDropped(t, elsewhere(e), x)
	if !a.Step(e) || a.Done().E != api.OK || a.Done().Handle != 65536 {
		t.Error(a.Done())
	}
	wantNone(t, e, 65536, false)
	if e.M.Peek(chunkAt(e.C, 0)+1) != 0 {
		t.Error("its words live")
	}
}
