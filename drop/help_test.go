package drop_test

import (
	"testing"

	"footlocker/api"
	"footlocker/drop"
	"footlocker/layout"
)

// marked is somebody in an arena in which an object is being let go.
func marked(t *testing.T, size, ver int) (layout.Env, thing) {
	t.Helper()
	e := filled(t, arena(4, 3, 40), 2)
	x := object(e.C, size, false)
	x.state, x.ver = dropping, ver
	lay(e, x)
	return e, x
}

// helper is one who helps that.
func helper(x thing) *drop.Help {
	return drop.NewHelp(x.slot, x.word(), x.size)
}

// wantHelped asks that somebody who begins now, and whom nobody disturbs, brings it to its end, step by step.
func wantHelped(t *testing.T, e layout.Env, x thing) {
	t.Helper()
	h := helper(x)
	wantFrozen(t, e, h, x, 0, x.ver)
	wantWon(t, e, h, x)
}

// wantWon asks for the last step, by which it ended.
func wantWon(t *testing.T, e layout.Env, h *drop.Help, x thing) {
	t.Helper()
	wantStep(t, e, h, slotAt(e.C, x.slot), behind(e.C, x.gen), true)
	if !h.Won() {
		t.Fatal("it ended by its step")
	}
}

// wantLost asks for the last step, in vain: it had ended.
func wantLost(t *testing.T, e layout.Env, h *drop.Help, x thing) {
	t.Helper()
	at := slotAt(e.C, x.slot)
	wantStep(t, e, h, at, e.M.Peek(at), true)
	if h.Won() {
		t.Fatal("it had ended")
	}
}

// wantBehind asks that one who helps behind another one changes nothing more.
func wantBehind(t *testing.T, e layout.Env, x thing) {
	t.Helper()
	h := helper(x)
	for k := range x.size {
		wantLook(t, e, h, x.addr+1+k)
	}
	wantLost(t, e, h, x)
}

func TestHelpOfEachSize(t *testing.T) {
	for size := 1; size <= api.MostSize; size++ {
		for _, ver := range []int{0, 1, 9, api.MostVer} {
			e, x := marked(t, size, ver)
			wantHelped(t, e, x)
			for range 3 {
				wantBehind(t, e, x)
			}
			// The slot is given back by the one who marked it, who takes its words away, too.
			wantFree(t, e, 0, 2, 3)
		}
	}
}

func TestHelpOfALastLife(t *testing.T) {
	for gen := 1; gen <= gens+3; gen++ {
		e, x := marked(t, 3, 4)
		x.gen = gen
		lay(e, x)
		wantHelped(t, e, x)
		if w := e.M.Peek(slotAt(e.C, 1)); stateOf(w) == retired != (gen >= gens) {
			t.Errorf("life %d: the slot's word is %#x", gen, w)
		}
		wantBehind(t, e, x)
	}
}

func TestHelpOfCellsThatAreFrozenAlready(t *testing.T) {
	for mask := range 1 << 5 {
		for _, ver := range []int{0, 7, 8, 9, api.MostVer} {
			e, x := marked(t, 5, 8)
			for k := range 5 {
				if mask>>k&1 != 0 {
					e.M.Store(x.addr+1+k, frozen(x.value(k), ver))
				}
			}
			wantHelped(t, e, x)
		}
	}
}

func TestHelpOfCellsThatAreLaidMeanwhile(t *testing.T) {
	// It is loaded anew, as often as that happens: nothing that was laid is lost.
	for k := range 5 {
		for times := 1; times <= 3; times++ {
			e, x := marked(t, 5, 8)
			h := helper(x)
			first := x
			first.size = k
			wantFrozen(t, e, h, first, 0, 8)
			for i := range times {
				wantLook(t, e, h, x.addr+1+k)
				e.M.Store(x.addr+1+k, uint64(500+i))
				wantLook(t, e, h, x.addr+1+k)
			}
			wantFrozen(t, e, h, x, k, 8)
			wantWon(t, e, h, x)
			if w := e.M.Peek(x.addr + 1 + k); w != frozen(uint64(500+times-1), 8) {
				t.Errorf("the cell is %#x", w)
			}
		}
	}
}

func TestHelpOfCellsThatAreFrozenMeanwhile(t *testing.T) {
	// By another one who helps: then it is passed over. In a move that is stopped by that: then it is frozen anew.
	for k := range 5 {
		for _, ver := range []int{7, 8} {
			e, x := marked(t, 5, 8)
			h := helper(x)
			first := x
			first.size = k
			wantFrozen(t, e, h, first, 0, 8)
			wantLook(t, e, h, x.addr+1+k)
			e.M.Store(x.addr+1+k, frozen(x.value(k), ver))
			wantLook(t, e, h, x.addr+1+k)
			wantFrozen(t, e, h, x, k, 8)
			wantWon(t, e, h, x)
		}
	}
}

func TestHelpOfCellsIsNotDoneTwice(t *testing.T) {
	// What becomes of cells behind their being frozen is looked at no more.
	e, x := marked(t, 3, 8)
	h := helper(x)
	first := x
	first.size = 2
	wantFrozen(t, e, h, first, 0, 8)
	e.M.Store(x.addr+1, 7)
	wantFrozen(t, e, h, x, 2, 8)
	wantWon(t, e, h, x)
	if e.M.Peek(x.addr+1) != 7 {
		t.Error("a cell was frozen anew")
	}
}

func TestHelpBehindAnotherWord(t *testing.T) {
	// By Cas of the word that it was told, whatever stands there.
	for _, w := range []uint64{
		slotWord(free, 0, 4, 0), slotWord(retired, 0, 3, 0), slotWord(live, 200, 4, 0), slotWord(dropping, 200, 4, 1),
		slotWord(dropping, 200, 3, 9), slotWord(dropping, 200, 3, 8), slotWord(live, 0, 3, 8), 0,
	} {
		for ahead := range 7 {
			e, x := marked(t, 3, 8)
			h := helper(x)
			for range ahead {
				h.Step(e)
			}
			e.M.Store(slotAt(e.C, 1), w)
			for range 6 - ahead {
				h.Step(e)
			}
			wantLost(t, e, h, x)
		}
	}
}

func TestTwoHelpInEachOrder(t *testing.T) {
	// Whoever is picked, it ends by the step of one of them, and all cells are frozen by then.
	for order := range 1 << 10 {
		e, x := marked(t, 3, 8)
		l := []*drop.Help{helper(x), helper(x)}
		for i := range 30 {
			who := i % 2
			if i < 10 {
				who = order >> i & 1
			}
			e.Who = who
			was := e.M.Peek(slotAt(e.C, 1))
			l[who].Step(e)
			if w := e.M.Peek(slotAt(e.C, 1)); w != was && (w != behind(e.C, 3) || !l[who].Won() || l[1-who].Won()) {
				t.Fatalf("order %b: the slot's word is %#x", order, w)
			}
		}
		if l[0].Won() == l[1].Won() || !l[0].Step(e) || !l[1].Step(e) {
			t.Fatalf("order %b: %v, %v", order, l[0].Won(), l[1].Won())
		}
		for k := range 3 {
			if w := e.M.Peek(x.addr + 1 + k); w != frozen(x.value(k), 8) {
				t.Fatalf("order %b: cell %d is %#x", order, k, w)
			}
		}
	}
}

func TestHelpThatIsDoneStaysDone(t *testing.T) {
	e, x := marked(t, 3, 8)
	won, lost := helper(x), helper(x)
	for !won.Step(e) {
	}
	for !lost.Step(e) {
	}
	// It is as it was once more.
	lay(e, x)
	wantNoStep(t, e, func() {
		for _, v := range []layout.Env{e, {}, {C: e.C}, {M: e.M}, e} {
			if !won.Step(v) || !lost.Step(v) || !won.Won() || lost.Won() {
				t.Error("it was done")
			}
		}
	})
}

func TestHelpsShareNothing(t *testing.T) {
	// Two that were copied midway go their own ways, wherever that was.
	for ahead := range 7 {
		e, x := marked(t, 3, 8)
		half := *helper(x)
		for range ahead {
			half.Step(e)
		}
		other := half
		for !half.Step(e) {
		}
		if !half.Won() || other.Won() {
			t.Errorf("behind %d steps: %v, %v", ahead, half.Won(), other.Won())
		}
		for !other.Step(e) {
		}
		if !half.Won() || other.Won() {
			t.Errorf("behind %d steps: %v, and then %v", ahead, half.Won(), other.Won())
		}
	}
}

func TestNobodyHelps(t *testing.T) {
	e, _ := marked(t, 3, 8)
	wantNoStep(t, e, func() {
		var none *drop.Help
		for _, h := range []*drop.Help{none, {}} {
			for range 3 {
				if h.Won() || !h.Step(e) || !h.Step(layout.Env{}) || h.Won() {
					t.Error("there is nothing to do")
				}
			}
		}
	})
}

func TestHelpOfNoSlot(t *testing.T) {
	e, x := marked(t, 3, 8)
	wantNoStep(t, e, func() {
		for _, s := range odd() {
			if s >= 0 && s < e.C.Slots {
				continue
			}
			h := drop.NewHelp(s, x.word(), 3)
			if !h.Step(e) || h.Won() {
				t.Errorf("slot %d is none", s)
			}
		}
	})
	wantHelped(t, e, x)
}

func TestHelpOfWordsOfNoObject(t *testing.T) {
	// Though the slot's word be the same.
	for _, state := range []int{free, retired, 5, 6, 7} {
		e, x := marked(t, 3, 8)
		x.state = state
		e.M.Store(slotAt(e.C, 1), x.word())
		wantNoStep(t, e, func() {
			h := helper(x)
			if !h.Step(e) || h.Won() {
				t.Errorf("of state %d there is no object", state)
			}
		})
	}
}

func TestHelpOfSizesThatAreNone(t *testing.T) {
	// There are no cells: no word of another object is touched.
	for _, size := range odd() {
		if size >= 1 && size <= api.MostSize {
			continue
		}
		e, x := marked(t, 3, 8)
		wantWon(t, e, drop.NewHelp(1, x.word(), size), x)
	}
}

func TestHelpOfPlacesThatAreNone(t *testing.T) {
	// A place in no chunk, or one of which the object would stand in two.
	c := arena(4, 3, 40)
	for _, addr := range []int{0, 1, 9, 10, baseAt(c, 0) - 3, baseAt(c, 0) - 1, baseAt(c, 1) - 1, baseAt(c, 1) - 3, baseAt(c, 3) - 3, baseAt(c, 3), baseAt(c, 3) + 1, api.MostAddress} {
		e, x := marked(t, 3, 8)
		x.addr = addr
		e.M.Store(slotAt(c, 1), x.word())
		wantWon(t, e, helper(x), x)
	}
	// The last place that is one.
	for i := range 3 {
		e, x := marked(t, 3, 8)
		x.addr = baseAt(c, i) + 36
		lay(e, x)
		wantHelped(t, e, x)
	}
}
