package slot_test

import (
	"testing"

	"footlocker/slot"
)

func TestTheSlotIsTakenAndGivenMeanwhile(t *testing.T) {
	// Behind one step, or two, the first free slot and its link are what they were: its count is not.
	for half := 1; half <= 2; half++ {
		for times := 1; times <= 3; times++ {
			e := filled(t, 3, 0)
			k := &slot.Take{}
			for range half {
				k.Step(e)
			}
			e.Who = 1
			for range times {
				wantTaken(t, e, 0)
				wantGiven(t, e, 0)
			}
			e.Who = 0
			if half == 1 {
				wantStep(t, e, k.Step, touch{linkAt(e.C, 0), top(1, 0)}, false)
			}
			turned := uint64(2 * times)
			wantStep(t, e, k.Step, touch{topAt, top(0, turned)}, false)
			wantSlot(t, k, 0, false)
			wantStep(t, e, k.Step, touch{topAt, top(0, turned)}, false)
			wantStep(t, e, k.Step, touch{linkAt(e.C, 0), top(1, 0)}, false)
			wantStep(t, e, k.Step, touch{topAt, top(1, turned+1)}, true)
			wantSlot(t, k, 0, true)
			wantFree(t, e, 1, 2)
		}
	}
}

func TestTheSlotIsLinkedElsewhereMeanwhile(t *testing.T) {
	e := filled(t, 4, 0)
	k := &slot.Take{}
	k.Step(e)
	k.Step(e)
	// The slot that was loaded as the next one is somebody else's now.
	e.Who = 1
	wantTaken(t, e, 0)
	wantTaken(t, e, 1)
	wantGiven(t, e, 0)
	wantFree(t, e, 0, 2, 3)
	e.Who = 0
	wantStep(t, e, k.Step, touch{topAt, top(0, 3)}, false)
	wantSlot(t, k, 0, false)
	wantStep(t, e, k.Step, touch{topAt, top(0, 3)}, false)
	wantStep(t, e, k.Step, touch{linkAt(e.C, 0), top(2, 0)}, false)
	wantStep(t, e, k.Step, touch{topAt, top(2, 4)}, true)
	wantSlot(t, k, 0, true)
	wantFree(t, e, 2, 3)
}

func TestOfTwoThatTakeOneBeginsAnew(t *testing.T) {
	e := filled(t, 3, 0)
	a, b := &slot.Take{}, &slot.Take{}
	for range 2 {
		a.Step(e)
		b.Step(e)
	}
	wantStep(t, e, b.Step, touch{topAt, top(1, 1)}, true)
	wantStep(t, e, a.Step, touch{topAt, top(1, 1)}, false)
	wantSlot(t, a, 0, false)
	wantStep(t, e, a.Step, touch{topAt, top(1, 1)}, false)
	wantStep(t, e, a.Step, touch{linkAt(e.C, 1), top(2, 0)}, false)
	wantStep(t, e, a.Step, touch{topAt, top(2, 2)}, true)
	wantSlot(t, b, 0, true)
	wantSlot(t, a, 1, true)
}

func TestTheLastOneIsTakenMeanwhile(t *testing.T) {
	for half := 1; half <= 2; half++ {
		e := filled(t, 1, 0)
		k := &slot.Take{}
		for range half {
			k.Step(e)
		}
		e.Who = 1
		wantTaken(t, e, 0)
		e.Who = 0
		if half == 1 {
			wantStep(t, e, k.Step, touch{linkAt(e.C, 0), top(-1, 0)}, false)
		}
		wantStep(t, e, k.Step, touch{topAt, top(-1, 1)}, false)
		// Anew, there is none.
		wantStep(t, e, k.Step, touch{topAt, top(-1, 1)}, true)
		wantSlot(t, k, 0, false)
	}
}

func TestAnotherOneIsGivenMeanwhile(t *testing.T) {
	for half := 1; half <= 2; half++ {
		e := filled(t, 5, 0)
		for s := range 3 {
			wantTaken(t, e, s)
		}
		g := slot.NewGive(0)
		for range half {
			g.Step(e)
		}
		e.Who = 1
		wantGiven(t, e, 1)
		e.Who = 0
		if half == 1 {
			wantStep(t, e, g.Step, touch{linkAt(e.C, 0), top(3, 0)}, false)
		}
		wantStep(t, e, g.Step, touch{topAt, top(1, 4)}, false)
		// Anew, the link is laid to the one that is first now.
		wantStep(t, e, g.Step, touch{topAt, top(1, 4)}, false)
		wantStep(t, e, g.Step, touch{linkAt(e.C, 0), top(1, 0)}, false)
		wantStep(t, e, g.Step, touch{topAt, top(0, 5)}, true)
		wantFree(t, e, 0, 1, 3, 4)
	}
}

func TestTheFirstOneIsTakenWhileAnotherOneIsGiven(t *testing.T) {
	e := filled(t, 3, 0)
	wantTaken(t, e, 0)
	g := slot.NewGive(0)
	g.Step(e)
	g.Step(e)
	// The same slot is first again, and linked to the same one: the count is another one.
	e.Who = 1
	wantTaken(t, e, 1)
	wantGiven(t, e, 1)
	e.Who = 0
	wantStep(t, e, g.Step, touch{topAt, top(1, 3)}, false)
	wantStep(t, e, g.Step, touch{topAt, top(1, 3)}, false)
	wantStep(t, e, g.Step, touch{linkAt(e.C, 0), top(1, 0)}, false)
	wantStep(t, e, g.Step, touch{topAt, top(0, 4)}, true)
	wantFree(t, e, 0, 1, 2)
}

func TestAGivenSlotIsFreeForWhoFoundNone(t *testing.T) {
	e := filled(t, 1, 0)
	wantTaken(t, e, 0)
	wantNone(t, e)
	g := slot.NewGive(0)
	g.Step(e)
	g.Step(e)
	wantNone(t, e)
	if !g.Step(e) {
		t.Fatal("it is given")
	}
	wantTaken(t, e, 0)
}

func TestTheWordIsAnotherOneAgainAndAgain(t *testing.T) {
	// Each try is disturbed, and each begins anew.
	e := filled(t, 3, 0)
	k := &slot.Take{}
	for i := range uint64(50) {
		wantStep(t, e, k.Step, touch{topAt, top(0, 2*i)}, false)
		wantStep(t, e, k.Step, touch{linkAt(e.C, 0), top(1, 0)}, false)
		wantTaken(t, e, 0)
		wantGiven(t, e, 0)
		wantStep(t, e, k.Step, touch{topAt, top(0, 2*i+2)}, false)
		wantSlot(t, k, 0, false)
	}
	for !k.Step(e) {
	}
	wantSlot(t, k, 0, true)
	wantFree(t, e, 1, 2)
}
