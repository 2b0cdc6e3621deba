package access_test

import (
	"testing"

	"footlocker/access"
	"footlocker/api"
	"footlocker/layout"
)

// begun is somebody who did so many of the first three steps: the slot's word, the head, the cell; and the step that was the last one.
func begun(t *testing.T, e layout.Env, x thing, want api.Want, ahead int) (*access.Access, int) {
	t.Helper()
	a := access.New(want, x.own)
	for _, at := range []int{slotAt(e.C, x.slot), x.addr, x.at(want.Index)}[:ahead] {
		wantLook(t, e, a, at)
	}
	return a, e.Now()
}

// wantRest asks for those of the first three steps that are left: the step at which the cell was loaded.
func wantRest(t *testing.T, e layout.Env, a *access.Access, x thing, want api.Want, ahead, now int) int {
	t.Helper()
	for _, at := range []int{slotAt(e.C, x.slot), x.addr, x.at(want.Index)}[ahead:] {
		wantLook(t, e, a, at)
		now = e.Now()
	}
	return now
}

// wantInVain asks for the steps up to where all begins anew, when the cell is another one than it was: it is loaded, and is not to be laid, or it was loaded, and is exchanged in vain.
func wantInVain(t *testing.T, e layout.Env, a *access.Access, x thing, want api.Want, ahead int) {
	t.Helper()
	wantRest(t, e, a, x, want, ahead, 0)
	if ahead == 3 {
		wantLook(t, e, a, x.at(want.Index))
	}
}

// readers is those of all that lay nothing, with what they come to.
func readers(x thing, k int) map[api.Want]api.Errno {
	return map[api.Want]api.Errno{x.read(k): api.OK, x.exchange(k, 5, 79): api.ErrOther}
}

// writers is those of all that lay a value.
func writers(x thing, k int) []api.Want {
	return []api.Want{x.write(k, 77), x.exchange(k, x.value(k), 78), x.exchange(k, x.value(k), x.value(k)), x.write(k, x.value(k))}
}

// freezeAll freezes all cells of an object in a move of a version.
func freezeAll(e layout.Env, x thing, ver int) {
	for k := range x.size {
		e.M.Store(x.at(k), frozen(uint64(valueOf(e.M.Peek(x.at(k)))), ver))
	}
}

func TestTheObjectIsLetGoMeanwhile(t *testing.T) {
	// By another one, who is done by then: ErrInvalid, at the step that saw it.
	for ahead := 1; ahead <= 3; ahead++ {
		for i := range 6 {
			e, x := placed(t, 4, i%2 == 0)
			for want := range readers(x, 2) {
				lay(e, x)
				a, _ := begun(t, e, x, want, ahead)
				letGo(t, elsewhere(e), x)
				wantRest(t, e, a, x, want, ahead, 0)
				wantGone(t, e, a, 1)
			}
			for _, want := range writers(x, 2) {
				lay(e, x)
				a, _ := begun(t, e, x, want, ahead)
				letGo(t, elsewhere(e), x)
				wantInVain(t, e, a, x, want, ahead)
				wantGone(t, e, a, 1)
			}
		}
	}
}

func TestTheSlotIsUsedAgainMeanwhile(t *testing.T) {
	// Another object, by another handle, stands there: it is not changed.
	for ahead := 1; ahead <= 3; ahead++ {
		e, x := placed(t, 4, false)
		y := x
		y.gen, y.addr = 4, baseAt(e.C, 2)
		for _, want := range append(writers(x, 2), x.read(2), x.exchange(2, 5, 79)) {
			lay(e, x)
			a, _ := begun(t, e, x, want, ahead)
			letGo(t, elsewhere(e), x)
			lay(e, y)
			if want.Kind == reading || want.Old == 5 {
				wantRest(t, e, a, x, want, ahead, 0)
			} else {
				wantInVain(t, e, a, x, want, ahead)
			}
			wantGone(t, e, a, 1)
			wantRead(t, e, y, 2, y.value(2))
		}
		// Though it stands at the same place.
		for want := range readers(x, 2) {
			lay(e, x)
			a, _ := begun(t, e, x, want, ahead)
			y.addr = x.addr
			lay(e, y)
			wantRest(t, e, a, x, want, ahead, 0)
			wantGone(t, e, a, 1)
		}
	}
}

func TestTheObjectIsMarkedMeanwhile(t *testing.T) {
	// As one that is let go: it lives till that is over. What is not frozen yet is laid.
	for ahead := 1; ahead <= 3; ahead++ {
		e, x := placed(t, 4, false)
		y := x
		y.state, y.ver = dropping, 1
		for want, why := range readers(x, 2) {
			for _, all := range []bool{false, true} {
				lay(e, x)
				a, now := begun(t, e, x, want, ahead)
				e.M.Store(slotAt(e.C, 1), y.word())
				if all {
					freezeAll(e, y, 1)
				}
				now = wantRest(t, e, a, x, want, ahead, now)
				wantChecked(t, e, a, 1, api.Done{E: why, Value: x.value(2), Stamp: now})
			}
		}
		for _, want := range writers(x, 2) {
			lay(e, x)
			a, _ := begun(t, e, x, want, ahead)
			e.M.Store(slotAt(e.C, 1), y.word())
			wantRest(t, e, a, x, want, ahead, 0)
			wantLaid(t, e, a, x.at(2), want.Value)
		}
		// What is frozen by then is not: that the object is let go is helped.
		for _, want := range writers(x, 2) {
			lay(e, x)
			a, _ := begun(t, e, x, want, ahead)
			e.M.Store(slotAt(e.C, 1), y.word())
			e.M.Store(x.at(2), frozen(uint64(x.value(2)), 1))
			wantInVain(t, e, a, x, want, ahead)
			wantLoaded(t, e, a, y, 2)
			wantHelped(t, e, a, y)
			wantGone(t, e, a, 1)
		}
	}
}

func TestAMoveBeginsMeanwhile(t *testing.T) {
	for ahead := 1; ahead <= 3; ahead++ {
		for _, ver := range []int{0, 6} {
			e, x := standing(t, 4, live, ver)
			y := x
			y.state = moving
			for want, why := range readers(x, 2) {
				for _, all := range []bool{false, true} {
					lay(e, x)
					a, now := begun(t, e, x, want, ahead)
					e.M.Store(slotAt(e.C, 1), y.word())
					if all {
						freezeAll(e, y, ver)
					}
					now = wantRest(t, e, a, x, want, ahead, now)
					wantChecked(t, e, a, 1, api.Done{E: why, Value: x.value(2), Stamp: now})
				}
			}
			// What is not frozen yet is laid, and goes with the object.
			for _, want := range writers(x, 2) {
				lay(e, x)
				a, _ := begun(t, e, x, want, ahead)
				e.M.Store(slotAt(e.C, 1), y.word())
				wantRest(t, e, a, x, want, ahead, 0)
				wantLaid(t, e, a, x.at(2), want.Value)
			}
			// Else it is seen that it is moving, and the move is stopped.
			for _, want := range writers(x, 2) {
				lay(e, x)
				a, _ := begun(t, e, x, want, ahead)
				e.M.Store(slotAt(e.C, 1), y.word())
				freezeAll(e, y, ver)
				wantInVain(t, e, a, x, want, ahead)
				wantLoaded(t, e, a, y, 2)
				z := y
				z.state, z.ver = live, ver+1
				wantOn(t, e, a, slotAt(e.C, 1), z.word())
				wantLoaded(t, e, a, z, 2)
				wantLaid(t, e, a, x.at(2), want.Value)
			}
		}
	}
}

func TestTheObjectStandsElsewhereMeanwhile(t *testing.T) {
	// All begins anew there; the words from which it was moved stay as they are.
	for ahead := 1; ahead <= 3; ahead++ {
		for _, state := range []int{live, moving} {
			e, x := standing(t, 4, state, 6)
			y := x
			y.state, y.ver, y.addr = live, 7, baseAt(e.C, 2)+9
			away := func(value int) {
				freezeAll(e, x, 6)
				lay(e, y)
				// Somebody laid it there, behind the move.
				e.M.Store(y.at(2), uint64(value))
			}
			for want, why := range readers(x, 2) {
				lay(e, x)
				a, _ := begun(t, e, x, want, ahead)
				away(31)
				wantRest(t, e, a, x, want, ahead, 0)
				wantLook(t, e, a, slotAt(e.C, 1))
				now := wantLoaded(t, e, a, y, 2)
				wantChecked(t, e, a, 1, api.Done{E: why, Value: 31, Stamp: now})
			}
			for _, want := range writers(x, 2) {
				for _, is := range []int{x.value(2), 31} {
					lay(e, x)
					a, _ := begun(t, e, x, want, ahead)
					away(is)
					wantInVain(t, e, a, x, want, ahead)
					if state == moving && ahead < 3 {
						// It is seen as one whose move is to be stopped: in vain.
						wantLook(t, e, a, slotAt(e.C, 1))
					}
					now := wantLoaded(t, e, a, y, 2)
					if want.Kind == exchanging && is != want.Old {
						wantChecked(t, e, a, 1, api.Done{E: api.ErrOther, Value: is, Stamp: now})
					} else {
						wantLaid(t, e, a, y.at(2), want.Value)
					}
					if e.M.Peek(x.at(2)) != frozen(uint64(x.value(2)), 6) {
						t.Fatal("the old place is changed")
					}
				}
			}
		}
	}
}

func TestWhatWasToBeLaidIsThereNoMoreElsewhere(t *testing.T) {
	// And the other way round: it was not there, and is where the object stands by then.
	e, x := placed(t, 4, false)
	y := x
	y.ver, y.addr = 1, baseAt(e.C, 2)
	a, _ := begun(t, e, x, x.exchange(2, 5, 6), 3)
	freezeAll(e, x, 0)
	lay(e, y)
	e.M.Store(y.at(2), 5)
	wantLook(t, e, a, slotAt(e.C, 1))
	wantLoaded(t, e, a, y, 2)
	wantLaid(t, e, a, y.at(2), 6)
}

func TestTheObjectGoesOnAndOn(t *testing.T) {
	// Who reads begins anew as often as it stands elsewhere.
	for i := range 2 {
		e, x := placed(t, 2, false)
		a := access.New([]api.Want{x.read(1), x.exchange(1, 5, 6)}[i], false)
		for n := range 12 {
			wantLoaded(t, e, a, x, 1)
			freezeAll(e, x, x.ver)
			x.ver++
			x.addr = baseAt(e.C, n%3) + 3*(n/3)
			lay(e, x)
			wantLook(t, e, a, slotAt(e.C, 1))
		}
		now := wantLoaded(t, e, a, x, 1)
		wantChecked(t, e, a, 1, api.Done{E: api.ErrOther * api.Errno(i), Value: x.value(1), Stamp: now})
	}
}

func TestAMoveIsStoppedMeanwhile(t *testing.T) {
	// By another one: the object is of another version, where it was.
	for ahead := 1; ahead <= 3; ahead++ {
		for _, state := range []int{live, moving} {
			e, x := standing(t, 4, state, 6)
			y := x
			y.state, y.ver = live, 7
			for want, why := range readers(x, 2) {
				for _, all := range []bool{false, true} {
					lay(e, x)
					a, now := begun(t, e, x, want, ahead)
					e.M.Store(slotAt(e.C, 1), y.word())
					if all {
						freezeAll(e, y, 6)
					}
					now = wantRest(t, e, a, x, want, ahead, now)
					wantChecked(t, e, a, 1, api.Done{E: why, Value: x.value(2), Stamp: now})
				}
			}
			// What is not frozen is laid.
			for _, want := range writers(x, 2) {
				lay(e, x)
				a, _ := begun(t, e, x, want, ahead)
				e.M.Store(slotAt(e.C, 1), y.word())
				wantRest(t, e, a, x, want, ahead, 0)
				wantLaid(t, e, a, x.at(2), want.Value)
			}
			// What is frozen in the move that was stopped is laid by one who saw that.
			for _, want := range writers(x, 2) {
				lay(e, x)
				a, _ := begun(t, e, x, want, ahead)
				e.M.Store(slotAt(e.C, 1), y.word())
				freezeAll(e, y, 6)
				wantInVain(t, e, a, x, want, ahead)
				if state == moving && ahead < 3 {
					wantLook(t, e, a, slotAt(e.C, 1))
				}
				wantLoaded(t, e, a, y, 2)
				wantLaid(t, e, a, x.at(2), want.Value)
			}
		}
	}
}

func TestTheWordIsAnotherOneAheadOfItsBeingStopped(t *testing.T) {
	// It is stopped in vain, and all begins anew, by what is there then.
	for lays := range 2 {
		begin := func() (layout.Env, thing, *access.Access) {
			e, x := standing(t, 4, moving, 6)
			freezeAll(e, x, 6)
			a := access.New([]api.Want{x.write(2, 9), x.exchange(2, x.value(2), 9)}[lays], false)
			wantLoaded(t, e, a, x, 2)
			return e, x, a
		}
		// Another one stopped it.
		e, x, a := begin()
		x.state, x.ver = live, 7
		e.M.Store(slotAt(e.C, 1), x.word())
		wantLook(t, e, a, slotAt(e.C, 1))
		wantLoaded(t, e, a, x, 2)
		wantLaid(t, e, a, x.at(2), 9)
		// It was stopped, and began anew: that is another move.
		e, x, a = begin()
		x.ver = 7
		e.M.Store(slotAt(e.C, 1), x.word())
		wantLook(t, e, a, slotAt(e.C, 1))
		wantLoaded(t, e, a, x, 2)
		wantLaid(t, e, a, x.at(2), 9)
		// It is over.
		e, x, a = begin()
		y := x
		y.state, y.ver, y.addr = live, 7, baseAt(e.C, 0)
		lay(e, y)
		wantLook(t, e, a, slotAt(e.C, 1))
		wantLoaded(t, e, a, y, 2)
		wantLaid(t, e, a, y.at(2), 9)
		// The object is marked as one that is let go.
		e, x, a = begin()
		x.state, x.ver = dropping, 7
		e.M.Store(slotAt(e.C, 1), x.word())
		wantLook(t, e, a, slotAt(e.C, 1))
		wantLoaded(t, e, a, x, 2)
		wantHelped(t, e, a, x)
		wantGone(t, e, a, 1)
		// It is let go.
		e, x, a = begin()
		letGo(t, elsewhere(e), x)
		wantLook(t, e, a, slotAt(e.C, 1))
		wantGone(t, e, a, 1)
	}
}

func TestAnotherValueIsLaidMeanwhile(t *testing.T) {
	// Behind the cell's being loaded: who reads tells what was there then; who lays does so behind it.
	e, x := placed(t, 4, false)
	v := x.value(2)
	for want, why := range readers(x, 2) {
		e.M.Store(x.at(2), uint64(v))
		a, now := begun(t, e, x, want, 3)
		if d, _ := came(elsewhere(e), x.write(2, 5), false); d.E != api.OK {
			t.Fatal(d)
		}
		wantChecked(t, e, a, 1, api.Done{E: why, Value: v, Stamp: now})
	}
	for _, want := range writers(x, 2) {
		e.M.Store(x.at(2), uint64(v))
		a, _ := begun(t, e, x, want, 3)
		for i := range 3 {
			// Again and again another one is ahead of it.
			if d, _ := came(elsewhere(e), x.write(2, 30+i), false); d.E != api.OK {
				t.Fatal(d)
			}
			wantLook(t, e, a, x.at(2))
			now := wantLoaded(t, e, a, x, 2)
			if want.Kind == exchanging {
				wantChecked(t, e, a, 1, api.Done{E: api.ErrOther, Value: 30, Stamp: now})
				break
			}
		}
		if want.Kind == writing {
			wantLaid(t, e, a, x.at(2), want.Value)
		}
	}
	// Ahead of it: that is what is there.
	for ahead := range 3 {
		e.M.Store(x.at(2), uint64(v))
		a, _ := begun(t, e, x, x.exchange(2, 31, 32), ahead)
		e.M.Store(x.at(2), 31)
		wantRest(t, e, a, x, x.exchange(2, 31, 32), ahead, 0)
		wantLaid(t, e, a, x.at(2), 32)
	}
	// The same value once more: it is there.
	for _, want := range writers(x, 2) {
		e.M.Store(x.at(2), uint64(v))
		a, _ := begun(t, e, x, want, 3)
		e.M.Store(x.at(2), 5)
		e.M.Store(x.at(2), uint64(v))
		wantLaid(t, e, a, x.at(2), want.Value)
	}
}

func TestTheSameValueIsFrozenMeanwhile(t *testing.T) {
	// The value is the same, the cell is not: what is laid would be lost.
	e, x := placed(t, 4, false)
	for _, want := range writers(x, 2) {
		lay(e, x)
		a, _ := begun(t, e, x, want, 3)
		y := x
		y.ver, y.addr = 1, baseAt(e.C, 2)
		freezeAll(e, x, 0)
		lay(e, y)
		wantLook(t, e, a, x.at(2))
		wantLoaded(t, e, a, y, 2)
		wantLaid(t, e, a, y.at(2), want.Value)
		wantRead(t, e, y, 2, want.Value)
	}
}

func TestAnotherOneHelpsMeanwhile(t *testing.T) {
	// From any step on: what is over is not done again, and what stands in the slot then is not changed.
	for used := range 2 {
		for ahead := range 9 {
			e, x := standing(t, 4, dropping, 6)
			a := access.New(x.write(1, 9), false)
			wantLoaded(t, e, a, x, 1)
			for k := range ahead {
				wantStep(t, e, a, x.at(k/2), helpedTo(e, x, k), false)
			}
			other := access.New(x.write(3, 9), false)
			for !other.Step(elsewhere(e)) {
			}
			if other.Done().E != api.ErrInvalid {
				t.Fatal(other.Done())
			}
			y := x
			y.state, y.gen, y.addr = live, 4, baseAt(e.C, 2)
			if used == 1 {
				lay(e, y)
			}
			if ahead%2 == 1 {
				// It was loaded: it is frozen in vain, and loaded anew.
				wantLook(t, e, a, x.at(ahead/2))
			}
			for k := ahead / 2; k < 4; k++ {
				wantLook(t, e, a, x.at(k))
			}
			wantLook(t, e, a, slotAt(e.C, 1))
			wantGone(t, e, a, 1)
			if used == 1 {
				wantRead(t, e, y, 1, y.value(1))
			}
		}
	}
}

// helpedTo is what a cell is behind a step of one who helps: it is loaded, and then frozen.
func helpedTo(e layout.Env, x thing, step int) uint64 {
	w := e.M.Peek(x.at(step / 2))
	if step%2 == 1 {
		return frozen(uint64(valueOf(w)), x.ver)
	}
	return w
}

func TestTheHeadIsSeenWithEachWord(t *testing.T) {
	// All begins anew with the head, too: what stands elsewhere may not be Own as is said, or of another size.
	e, x := placed(t, 4, false)
	y := x
	y.ver, y.addr, y.size = 1, baseAt(e.C, 2), 2
	for _, want := range x.all(3) {
		lay(e, x)
		a, _ := begun(t, e, x, want, 3)
		freezeAll(e, x, 0)
		lay(e, y)
		wantLook(t, e, a, vainAt(e, x, want))
		wantLook(t, e, a, slotAt(e.C, 1))
		now := e.Now()
		wantStep(t, e, a, y.addr, e.M.Peek(y.addr), true)
		wantDone(t, a, api.Done{E: api.ErrIndex, Stamp: now})
	}
	y.size, y.own = 4, true
	for _, want := range x.all(3) {
		lay(e, x)
		a, _ := begun(t, e, x, want, 3)
		freezeAll(e, x, 0)
		lay(e, y)
		wantLook(t, e, a, vainAt(e, x, want))
		wantLook(t, e, a, slotAt(e.C, 1))
		wantStep(t, e, a, y.addr, e.M.Peek(y.addr), true)
		wantDone(t, a, api.Done{E: api.ErrInvalid, Stamp: e.Now()})
	}
}

// vainAt is the word at which one who loaded a cell sees that the object stands elsewhere: the slot's, or, to lay, the cell.
func vainAt(e layout.Env, x thing, want api.Want) int {
	if want.Kind == reading || want.Kind == exchanging && want.Old == 5 {
		return slotAt(e.C, x.slot)
	}
	return x.at(want.Index)
}

func TestTheStepIsItsOwnWhoeverWorksInBetween(t *testing.T) {
	e, x := placed(t, 4, false)
	others := func() {
		for range 7 {
			wantRead(t, elsewhere(e), x, 0, x.value(0))
		}
	}
	for want, why := range readers(x, 2) {
		a := access.New(want, false)
		for range 3 {
			others()
			a.Step(e)
		}
		now := e.Now()
		others()
		wantChecked(t, e, a, 1, api.Done{E: why, Value: x.value(2), Stamp: now})
		others()
		wantDone(t, a, api.Done{E: why, Value: x.value(2), Stamp: now})
	}
	for _, want := range writers(x, 2) {
		lay(e, x)
		a := access.New(want, false)
		for range 3 {
			others()
			a.Step(e)
		}
		others()
		wantLaid(t, e, a, x.at(2), want.Value)
		now := e.Now()
		others()
		wantDone(t, a, api.Done{Value: x.value(2), Stamp: now})
	}
	// ErrIndex: where the slot's word was loaded.
	a := access.New(x.read(4), false)
	others()
	a.Step(e)
	now := e.Now()
	others()
	a.Step(e)
	others()
	wantDone(t, a, api.Done{E: api.ErrIndex, Stamp: now})
	// ErrInvalid: the step by which it ended, or how many were done till then.
	for _, l := range []struct {
		want  api.Want
		own   bool
		steps int
	}{{x.read(0), true, 2}, {api.Want{Kind: writing, Handle: handle(1, 4)}, false, 1}, {api.Want{Kind: writing, Handle: 7}, false, 1}} {
		a := access.New(l.want, l.own)
		for range l.steps {
			others()
			a.Step(e)
		}
		now := e.Now()
		others()
		wantDone(t, a, api.Done{E: api.ErrInvalid, Stamp: now})
	}
}
