package move_test

import (
	"testing"

	"footlocker/access"
	"footlocker/api"
	"footlocker/layout"
)

// Which step comes first: to get words, to lay the head, to mark the object, to load a cell; three for each cell.
const (
	getting = 1
	heading = 4
	marking = 5
	loading = 6
)

// showing is which step shows an object.
func showing(x thing) int { return loading + 3*x.size }

// wantNth asks for a step of one whom nobody disturbs, up to the one that shows the object.
func wantNth(t *testing.T, e layout.Env, m *mover, x thing, i int) {
	t.Helper()
	at := chunkAt(e.C, 2)
	switch i {
	case 0:
		wantSeen(t, e, m, x)
	case getting:
		wantLook(t, e, m, openAt(classes[x.size]))
	case getting + 1:
		wantLook(t, e, m, at)
	case getting + 2:
		m.spot, m.is = copyOf(e, x), true
		wantOn(t, e, m, at, e.M.Peek(at)+uint64(x.room())<<8)
	case heading:
		wantHead(t, e, m, x, pending)
	case marking:
		wantMarked(t, e, m, x)
	default:
		k := (i - loading) / 3
		w := e.M.Peek(x.at(k))
		switch (i - loading) % 3 {
		case 0:
			wantLook(t, e, m, x.at(k))
		case 1:
			wantOn(t, e, m, x.at(k), frozen(valueOf(w), x.ver))
		case 2:
			wantOn(t, e, m, m.spot.Addr+1+k, uint64(valueOf(w)))
		}
	}
}

// begun is somebody who did so many steps, and the cell at which it is, as it was then.
func begun(t *testing.T, e layout.Env, x thing, ahead int) (*mover, uint64) {
	t.Helper()
	m := newMover(x)
	for i := range ahead {
		wantNth(t, e, m, x, i)
	}
	if ahead < loading || ahead >= showing(x) {
		return m, 0
	}
	return m, e.M.Peek(x.at((ahead - loading) / 3))
}

// wantGoOn asks for the steps from one on, up to the one that would show the object, whatever became of its cells: it sees what they are, but the one that was held already.
func wantGoOn(t *testing.T, e layout.Env, m *mover, x thing, from int, held uint64) {
	t.Helper()
	for i := from; i < loading; i++ {
		wantNth(t, e, m, x, i)
	}
	if from = max(from, loading); from == showing(x) {
		return
	}
	k := (from - loading) / 3
	switch (from - loading) % 3 {
	case 0:
		wantCell(t, e, m, x, k)
	case 1:
		if e.M.Peek(x.at(k)) == held {
			wantOn(t, e, m, x.at(k), frozen(valueOf(held), x.ver))
			wantOn(t, e, m, m.spot.Addr+1+k, uint64(valueOf(held)))
			break
		}
		// It is frozen in vain, and loaded anew.
		wantLook(t, e, m, x.at(k))
		wantCell(t, e, m, x, k)
	case 2:
		wantOn(t, e, m, m.spot.Addr+1+k, uint64(valueOf(held)))
	}
	wantCells(t, e, m, x, k+1)
}

// wantNotMarked asks for the steps from one on, up to where the slot is not Moving, as its word is another one.
func wantNotMarked(t *testing.T, e layout.Env, m *mover, x thing, from int) {
	t.Helper()
	for i := from; i < marking; i++ {
		wantNth(t, e, m, x, i)
	}
	wantLook(t, e, m, slotAt(e.C, x.slot))
}

// wantLostAnd asks for all steps from one on, when the slot's word is another one from there on: that is seen once, by Cas, and then, as all begins anew, when the word is loaded.
func wantLostAnd(t *testing.T, e layout.Env, m *mover, x thing, from int, held uint64) {
	t.Helper()
	if from > 0 && from <= marking {
		wantNotMarked(t, e, m, x, from)
	}
	if from > marking {
		wantGoOn(t, e, m, x, from, held)
		wantVain(t, e, m, x)
	}
}

// wantOver asks for the steps by which it ends when the slot's word is loaded: it came to that. Whoever had a copy lets it be dead.
func wantOver(t *testing.T, e layout.Env, m *mover, x thing, out int) {
	t.Helper()
	if !m.is {
		wantStep(t, e, m, slotAt(e.C, x.slot), e.M.Peek(slotAt(e.C, x.slot)), true)
		wantOut(t, m, out)
		return
	}
	wantSeen(t, e, m, x)
	wantBuried(t, e, m, x, out)
}

// eachPlace lets something be done ahead of each step up to the one that shows the object; of objects of some sizes, in some versions.
func eachPlace(t *testing.T, do func(e layout.Env, x thing, m *mover, from int, held uint64)) {
	t.Helper()
	for _, size := range []int{1, 2, 3, 5, 16} {
		for _, ver := range []int{0, 6} {
			x := thing{size: size}
			for from := range showing(x) + 1 {
				e, x := standing(t, size, live, ver)
				m, held := begun(t, e, x, from)
				do(e, x, m, from, held)
			}
		}
	}
}

func TestTheMoveIsStoppedMeanwhile(t *testing.T) {
	// All begins anew, in the next version, with the words that were got.
	eachPlace(t, func(e layout.Env, x thing, m *mover, from int, held uint64) {
		if from < loading {
			return
		}
		y := x
		y.ver++
		e.M.Store(slotAt(e.C, 1), y.word())
		wantLostAnd(t, e, m, x, from, held)
		wantAnew(t, e, m, y)
		wantCells(t, e, m, y, 0)
		z := wantShown(t, e, m, y)
		wantThere(t, e, z)
		if z.ver != x.ver+2 {
			t.Fatal(z)
		}
	})
}

func TestTheWordIsAnotherOneAheadOfItsBeingMarked(t *testing.T) {
	// Another one's move was stopped: all begins anew, and that is not counted.
	eachPlace(t, func(e layout.Env, x thing, m *mover, from int, held uint64) {
		if from < 1 || from > marking {
			return
		}
		e.C.Tries = 1
		y := x
		y.ver++
		e.M.Store(slotAt(e.C, 1), y.word())
		wantNotMarked(t, e, m, x, from)
		for range 20 {
			wantSeen(t, e, m, y)
			wantHead(t, e, m, y, pending)
			y.ver++
			e.M.Store(slotAt(e.C, 1), y.word())
			wantLook(t, e, m, slotAt(e.C, 1))
		}
		wantAnew(t, e, m, y)
		wantCells(t, e, m, y, 0)
		wantThere(t, e, wantShown(t, e, m, y))
	})
}

func TestTheObjectIsLetGoMeanwhile(t *testing.T) {
	// By another one, who is done by then: it is gone, and the copy is dead.
	eachPlace(t, func(e layout.Env, x thing, m *mover, from int, held uint64) {
		letGo(t, elsewhere(e), x)
		wantLostAnd(t, e, m, x, from, held)
		wantOver(t, e, m, x, api.MoveDead)
		if w := e.M.Peek(slotAt(e.C, 1)); w != slotWord(free, 0, 4, 0) {
			t.Fatalf("the slot's word is %#x", w)
		}
		// No cell is frozen in a lesser version than that in which the object was let go.
		for k := range x.size {
			if w := e.M.Peek(x.at(k)); w != frozen(x.value(k), x.ver+1) {
				t.Fatalf("cell %d is %#x", k, w)
			}
		}
	})
}

func TestTheObjectIsLetGoInItsLastLifeMeanwhile(t *testing.T) {
	eachPlace(t, func(e layout.Env, x thing, m *mover, from int, held uint64) {
		e.C.Gens = 3
		letGo(t, elsewhere(e), x)
		wantLostAnd(t, e, m, x, from, held)
		wantOver(t, e, m, x, api.MoveDead)
		if w := e.M.Peek(slotAt(e.C, 1)); w != slotWord(retired, 0, 3, 0) {
			t.Fatalf("the slot's word is %#x", w)
		}
	})
}

func TestTheObjectIsMarkedMeanwhile(t *testing.T) {
	// As one that is let go: it is kept; whoever marked it ends it, behind that.
	eachPlace(t, func(e layout.Env, x thing, m *mover, from int, held uint64) {
		y := x
		y.state, y.ver = dropping, x.ver+1
		e.M.Store(slotAt(e.C, 1), y.word())
		wantLostAnd(t, e, m, x, from, held)
		wantOver(t, e, m, x, api.MoveKept)
		if w := e.M.Peek(slotAt(e.C, 1)); w != y.word() {
			t.Fatalf("the slot's word is %#x", w)
		}
	})
}

func TestTheSlotIsUsedAgainMeanwhile(t *testing.T) {
	// Another object, by another handle: it is not changed.
	eachPlace(t, func(e layout.Env, x thing, m *mover, from int, held uint64) {
		letGo(t, elsewhere(e), x)
		y := x
		y.gen, y.ver, y.addr = 4, 0, baseAt(e.C, 0)
		lay(e, y)
		wantLostAnd(t, e, m, x, from, held)
		wantOver(t, e, m, x, api.MoveDead)
		wantThere(t, e, y)
	})
}

func TestTheObjectStandsElsewhereMeanwhile(t *testing.T) {
	// Another one moved it: there it is let be.
	eachPlace(t, func(e layout.Env, x thing, m *mover, from int, held uint64) {
		y := x
		y.ver, y.addr = x.ver+2, baseAt(e.C, 0)
		for k := range x.size {
			e.M.Store(x.at(k), frozen(x.value(k), x.ver+1))
		}
		lay(e, y)
		wantLostAnd(t, e, m, x, from, held)
		wantOver(t, e, m, x, api.MoveDead)
		wantThere(t, e, y)
		for k := range x.size {
			if w := e.M.Peek(x.at(k)); w != frozen(x.value(k), x.ver+1) {
				t.Fatalf("cell %d is %#x", k, w)
			}
		}
	})
}

func TestAnotherOneMovesItMeanwhile(t *testing.T) {
	// It is not Live then: it is told as dead.
	eachPlace(t, func(e layout.Env, x thing, m *mover, from int, held uint64) {
		y := x
		y.state, y.ver = moving, x.ver+1
		e.M.Store(slotAt(e.C, 1), y.word())
		wantLostAnd(t, e, m, x, from, held)
		wantOver(t, e, m, x, api.MoveDead)
	})
}

// wrote lays a word of an object, by another one.
func wrote(t *testing.T, e layout.Env, want api.Want) {
	t.Helper()
	a := access.New(want, false)
	for !a.Step(elsewhere(e)) {
	}
	if a.Done().E != api.OK {
		t.Fatal(a.Done())
	}
}

func TestAWordIsLaidMeanwhile(t *testing.T) {
	// It is there at the end, wherever it was laid: the move begins anew, or it goes with the object.
	eachPlace(t, func(e layout.Env, x thing, m *mover, from int, held uint64) {
		for _, k := range []int{0, x.size / 2, x.size - 1} {
			e, x := standing(t, x.size, live, x.ver)
			m, held := begun(t, e, x, from)
			is := frozenIn(e.M.Peek(x.at(k)))
			if k%2 == 0 {
				wrote(t, e, x.write(k, 5))
			} else {
				wrote(t, e, x.exchange(k, x.value(k), 5))
			}
			y := x
			if is >= 0 {
				// The move is stopped.
				y.ver++
				wantGoOn(t, e, m, x, from, held)
				wantVain(t, e, m, x)
				wantAnew(t, e, m, y)
				wantCells(t, e, m, y, 0)
			} else {
				wantGoOn(t, e, m, x, from, held)
			}
			z := wantShown(t, e, m, y)
			for i := range x.size {
				want := x.value(i)
				if i == k {
					want = 5
				}
				if e.M.Peek(z.at(i)) != uint64(want) {
					t.Fatalf("behind %d steps: word %d is %#x", from, i, e.M.Peek(z.at(i)))
				}
			}
		}
	})
}

func TestTheSameValueIsLaidMeanwhile(t *testing.T) {
	// Of a cell that is frozen: the cell is another one, so that the move must not go on.
	e, x := standing(t, 2, live, 3)
	m, held := begun(t, e, x, showing(x))
	wrote(t, e, x.write(1, x.value(1)))
	wantGoOn(t, e, m, x, showing(x), held)
	wantVain(t, e, m, x)
	x.ver++
	wantAnew(t, e, m, x)
	wantCells(t, e, m, x, 0)
	wantThere(t, e, wantShown(t, e, m, x))
}

func TestACellIsAnotherOneAgainAndAgain(t *testing.T) {
	// It is loaded anew each time; that is not counted.
	for k := range 3 {
		e, x := standing(t, 3, live, 2)
		e.C.Tries = 1
		m, _ := begun(t, e, x, loading+3*k)
		for v := range 30 {
			wantLook(t, e, m, x.at(k))
			wrote(t, e, x.write(k, v))
			wantLook(t, e, m, x.at(k))
		}
		wantCells(t, e, m, x, k)
		z := wantShown(t, e, m, x)
		if e.M.Peek(z.at(k)) != 29 {
			t.Errorf("it is %#x", e.M.Peek(z.at(k)))
		}
	}
}

func TestTries(t *testing.T) {
	// As often as is told somebody stops it: then it is kept, and the copy is dead. One time fewer: it is moved.
	for tries := 1; tries <= 16; tries++ {
		for times := range tries + 1 {
			e, x := standing(t, 2, live, 3)
			e.C.Tries = tries
			m := newMover(x)
			wantBegun(t, e, m, x)
			for n := range times {
				if n > 0 {
					wantAnew(t, e, m, x)
				}
				wantCells(t, e, m, x, 0)
				x.ver++
				e.M.Store(slotAt(e.C, 1), x.word())
				wantVain(t, e, m, x)
			}
			if times == tries {
				wantBuried(t, e, m, x, api.MoveKept)
				if e.M.Peek(slotAt(e.C, 1)) != x.word() {
					t.Fatal("the slot's word is changed")
				}
				continue
			}
			if times > 0 {
				wantAnew(t, e, m, x)
			}
			wantCells(t, e, m, x, 0)
			wantThere(t, e, wantShown(t, e, m, x))
		}
	}
}

func TestTriesAreCountedWhoeverEndedThem(t *testing.T) {
	// With one try, an object that was let go is not looked at again: it is kept.
	for _, size := range []int{1, 4, 16} {
		e, x := placed(t, size, false)
		e.C.Tries = 1
		m, held := begun(t, e, x, loading+1)
		letGo(t, elsewhere(e), x)
		wantGoOn(t, e, m, x, loading+1, held)
		wantVain(t, e, m, x)
		wantBuried(t, e, m, x, api.MoveKept)
	}
	// With two, it is dead.
	e, x := placed(t, 4, false)
	e.C.Tries = 2
	m, held := begun(t, e, x, loading+1)
	letGo(t, elsewhere(e), x)
	wantGoOn(t, e, m, x, loading+1, held)
	wantVain(t, e, m, x)
	wantOver(t, e, m, x, api.MoveDead)
}

func TestAWriteWithOneTry(t *testing.T) {
	// The object is kept, with what was laid.
	e, x := placed(t, 3, false)
	e.C.Tries = 1
	m, held := begun(t, e, x, showing(x))
	wrote(t, e, x.write(2, 5))
	wantGoOn(t, e, m, x, showing(x), held)
	wantVain(t, e, m, x)
	wantBuried(t, e, m, x, api.MoveKept)
	if e.M.Peek(slotAt(e.C, 1)) != x.in(live, 1) || valueOf(e.M.Peek(x.at(2))) != 5 {
		t.Error("it is not kept")
	}
	// Another one moves it, with that.
	x.ver = 1
	if y := wantMoved(t, e, x); e.M.Peek(y.at(2)) != 5 {
		t.Errorf("it is %#x", e.M.Peek(y.at(2)))
	}
}

func TestSomethingBecomesOfItBehindItsBeingShown(t *testing.T) {
	// It was moved: the last steps are done, whatever becomes of it.
	for behind := range 3 {
		for what := range 3 {
			e, x := placed(t, 4, false)
			m := newMover(x)
			wantBegun(t, e, m, x)
			wantCells(t, e, m, x, 0)
			y := x
			y.addr, y.ver = m.spot.Addr, 1
			wantOn(t, e, m, slotAt(e.C, 1), y.word())
			if behind > 0 {
				wantHead(t, e, m, x, ready)
			}
			if behind > 1 {
				at := chunkAt(e.C, 2) + 1
				wantOn(t, e, m, at, e.M.Peek(at)+5)
			}
			switch what {
			case 0:
				letGo(t, elsewhere(e), y)
			case 1:
				wrote(t, e, y.write(0, 5))
			case 2:
				y = wantMoved(t, elsewhere(e), y)
			}
			if behind == 0 {
				wantHead(t, e, m, x, ready)
			}
			if behind < 2 {
				at := chunkAt(e.C, 2) + 1
				wantOn(t, e, m, at, e.M.Peek(at)+5)
			}
			at := chunkAt(e.C, 1) + 1
			wantStep(t, e, m, at, 5, true)
			wantOut(t, m, api.MoveDone)
			if n := e.M.Peek(chunkAt(e.C, 2) + 1); n != uint64([]int{5, 10, 10}[what]) {
				t.Fatalf("%d words live", n)
			}
			if what == 2 {
				wantThere(t, e, y)
			}
		}
	}
}

func TestSomethingBecomesOfItOnTheSecondTry(t *testing.T) {
	// Stopped once; then it is let go, or marked, ahead of each step.
	for from := range 9 {
		for what := range 2 {
			e, x := standing(t, 2, live, 4)
			m := newMover(x)
			wantBegun(t, e, m, x)
			wantCells(t, e, m, x, 0)
			x.ver++
			e.M.Store(slotAt(e.C, 1), x.word())
			wantVain(t, e, m, x)
			l := []int{0, heading, marking, loading, loading + 1, loading + 2, loading + 3, loading + 4, loading + 5}
			for _, i := range l[:from] {
				wantNth(t, e, m, x, i)
			}
			var held uint64
			if l[from] > loading {
				held = e.M.Peek(x.at((l[from] - loading) / 3))
			}
			out := api.MoveDead
			if what == 0 {
				letGo(t, elsewhere(e), x)
			} else {
				out = api.MoveKept
				e.M.Store(slotAt(e.C, 1), x.in(dropping, x.ver+1))
			}
			wantLostAnd(t, e, m, x, l[from], held)
			wantOver(t, e, m, x, out)
		}
	}
}

func TestTheLastRoomIsTakenMeanwhile(t *testing.T) {
	// Words that are not there any more when they are to be got.
	for ahead := 1; ahead <= 3; ahead++ {
		e, x := placed(t, 4, false)
		e.M.Store(chunkAt(e.C, 3), chunkWord(quiet, 0, 80, 5))
		e.M.Store(chunkAt(e.C, 2), chunkWord(open, 1, 75, 9))
		m := newMover(x)
		for i := range ahead {
			wantNth(t, e, m, x, i)
		}
		e.M.Store(chunkAt(e.C, 2), chunkWord(open, 1, 80, 9))
		for !m.Step(e) {
			wantOut(t, m, 0)
		}
		wantOut(t, m, api.MoveRoom)
		wantThere(t, e, x)
	}
}

func TestTheStepIsItsOwnWhoeverWorksInBetween(t *testing.T) {
	// Others read, wherever that is, and nothing is another one by that.
	e, x := placed(t, 3, false)
	m := newMover(x)
	n := 0
	for done := false; !done; n++ {
		now := e.Now()
		done = m.Step(e)
		if e.Now() != now+1 || e.M.Last().Who != e.Who {
			t.Fatalf("%d steps, the last one by %d", e.Now()-now, e.M.Last().Who)
		}
		for k := range 3 {
			a := access.New(x.read(k), false)
			for !a.Step(elsewhere(e)) {
			}
			if d := a.Done(); d.E != api.OK || d.Value != x.value(k) {
				t.Fatalf("behind step %d: %v", n, d)
			}
		}
	}
	if n != showing(x)+4 || m.Out() != api.MoveDone {
		t.Errorf("%d steps, %d", n, m.Out())
	}
}
