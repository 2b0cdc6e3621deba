package drop_test

import (
	"cmp"
	"slices"
	"testing"

	"footlocker/alloc"
	"footlocker/api"
	"footlocker/drop"
	"footlocker/layout"
	"footlocker/mem"
	"footlocker/slot"
)

// doer is somebody who lets an object go as the chapter's words tell it, in a memory of its own: what is done next, and what is known of the object. How slots are given back the layer below tells it.
type doer struct {
	at    func(e layout.Env) bool
	x     thing
	seen  uint64 // the slot's word
	cell  int
	held  uint64 // that cell
	mine  bool   // it was marked by this one
	give  *slot.Give
	ended map[uint64]int // of each handle, the step at which its object's life was over
	want  api.Done
}

func newDoer(number uint64, own bool, ended map[uint64]int) *doer {
	d := &doer{x: thing{slot: int(number & (1<<16 - 1)), gen: int(number >> 16), own: own}, ended: ended}
	d.at = d.seeing
	return d
}

// invalid: it ends by that step.
func (d *doer) invalid(e layout.Env) bool {
	d.want = api.Done{E: api.ErrInvalid, Stamp: e.Now()}
	return true
}

// seeing: the slot's word is loaded; ErrInvalid, if no object lives by the handle.
func (d *doer) seeing(e layout.Env) bool {
	d.seen = e.Load(slotAt(e.C, d.x.slot))
	d.x.state, d.x.addr, d.x.ver = stateOf(d.seen), addrOf(d.seen), verOf(d.seen)
	if d.x.state == free || d.x.state == retired || genOf(d.seen) != d.x.gen {
		return d.invalid(e)
	}
	d.at = d.asking
	return false
}

// asking: its head is loaded; ErrInvalid, if it is not Own as is said.
func (d *doer) asking(e layout.Env) bool {
	h := e.Load(d.x.addr)
	if ownOf(h) != d.x.own {
		return d.invalid(e)
	}
	d.x.size, d.cell, d.mine = sizeOf(h), 0, false
	d.at = d.marking
	if d.x.state == dropping {
		d.at = d.loading
	}
	return false
}

// marking: by Cas of the word that was seen it is Dropping, its Ver one more; or all begins anew.
func (d *doer) marking(e layout.Env) bool {
	d.at = d.seeing
	if e.Cas(slotAt(e.C, d.x.slot), d.seen, d.x.marked()) {
		d.seen = d.x.marked()
		d.x.ver++
		d.mine = true
		d.at = d.loading
	}
	return false
}

// loading: a cell is loaded.
func (d *doer) loading(e layout.Env) bool {
	d.held = e.Load(d.x.addr + 1 + d.cell)
	d.at = d.freezing
	if d.held == frozen(valueOf(d.held), d.x.ver) {
		d.pass()
	}
	return false
}

// freezing: by Cas it is frozen in a move of the word's Ver; or it is loaded anew.
func (d *doer) freezing(e layout.Env) bool {
	d.at = d.loading
	if e.Cas(d.x.addr+1+d.cell, d.held, frozen(valueOf(d.held), d.x.ver)) {
		d.pass()
	}
	return false
}

// pass: the next cell, or, behind the last one, the slot's word.
func (d *doer) pass() {
	d.cell++
	d.at = d.loading
	if d.cell == d.x.size {
		d.at = d.ending
	}
}

// ending: by Cas of the word the slot is free, or retired.
func (d *doer) ending(e layout.Env) bool {
	if e.Cas(slotAt(e.C, d.x.slot), d.seen, behind(e.C, d.x.gen)) {
		d.ended[d.x.number()] = e.Now()
	}
	d.at = d.seeing
	if d.mine {
		d.want.Stamp = d.ended[d.x.number()]
		d.at = d.counting
	}
	return false
}

// counting: the chunk's live words fall by Room.
func (d *doer) counting(e layout.Env) bool {
	e.Add(chunkAt(e.C, chunkOf(e.C, d.x.addr))+1, -d.x.room())
	d.give = slot.NewGive(d.x.slot)
	d.at = d.give.Step
	return d.x.gen >= e.C.Gens
}

// chunkOf is the chunk in which a word is.
func chunkOf(c api.Config, addr int) int {
	return (addr - baseAt(c, 0)) / c.Words
}

// seat is one of several, who lets an object go, or makes one: what it does, and what the chapter tells of it.
type seat struct {
	d     *drop.Drop
	told  *doer
	a     *alloc.Alloc
	twin  *alloc.Alloc // makes the same in the other memory
	began int
}

// told is what one of several was told.
type told struct {
	made         bool // an object was made, or else let go
	number       uint64
	own          bool
	done         api.Done
	began, ended int
}

// crowd is several who work in one memory; what the chapter tells of them, in another one.
type crowd struct {
	t     *testing.T
	e     layout.Env
	twin  *mem.Mem
	seats []seat
	ended map[uint64]int
	told  []told
	made  []uint64 // handles that were told
	owned map[uint64]bool
}

func newCrowd(t *testing.T, c api.Config, seats int) *crowd {
	t.Helper()
	return &crowd{
		t: t, e: entered(t, c, 0), twin: entered(t, c, 0).M,
		seats: make([]seat, seats), ended: map[uint64]int{}, owned: map[uint64]bool{},
	}
}

// busy is whether somebody is on the way.
func (c *crowd) busy(who int) bool {
	return c.seats[who].d != nil || c.seats[who].a != nil
}

// drop lets somebody begin to let an object go.
func (c *crowd) drop(who int, number uint64, own bool) {
	c.seats[who] = seat{d: drop.New(number, own), told: newDoer(number, own, c.ended), began: c.e.Now()}
}

// alloc lets somebody begin to make an object.
func (c *crowd) alloc(who, size int, own bool) {
	c.seats[who] = seat{a: alloc.New(size, own), twin: alloc.New(size, own), began: c.e.Now()}
}

// make makes an object, by somebody who is picked alone: its handle; 0: there is no slot, or no room.
func (c *crowd) make(who, size int, own bool) uint64 {
	c.t.Helper()
	c.alloc(who, size, own)
	return c.run(who).Handle
}

// pick lets the one that is picked do a step, and asks that it is the one that the chapter tells.
func (c *crowd) pick(who int) {
	c.t.Helper()
	s := &c.seats[who]
	c.e.Who = who
	e := layout.Env{C: c.e.C, M: c.twin, Who: who}
	var done, want bool
	if s.d != nil {
		done, want = s.d.Step(c.e), s.told.at(e)
	} else {
		done, want = s.a.Step(c.e), s.twin.Step(e)
	}
	if done != want || c.e.Now() != c.twin.Steps() || c.e.M.Last() != c.twin.Last() {
		c.t.Fatalf("by %d: %v, step %d, %v, not %v, step %d, %v", who, done, c.e.Now(), c.e.M.Last(), want, c.twin.Steps(), c.twin.Last())
	}
	c.wantTouched(s)
	if done {
		c.end(s)
		*s = seat{}
	} else if s.d != nil {
		wantDone(c.t, s.d, api.Done{})
	}
}

// wantTouched asks that the word that was touched is what it must be, and, if it is one of a chunk's and was changed by one who lets an object go, a cell of that. All words were the same ahead of it, so that just that one can be another one.
func (c *crowd) wantTouched(s *seat) {
	c.t.Helper()
	last := c.e.M.Last()
	if c.e.M.Peek(last.Addr) != c.twin.Peek(last.Addr) {
		c.t.Fatalf("word %d is %#x, not %#x", last.Addr, c.e.M.Peek(last.Addr), c.twin.Peek(last.Addr))
	}
	if s.d == nil || last.Addr < baseAt(c.e.C, 0) {
		return
	}
	first := s.told.x.addr
	if last.Changed {
		first++
	}
	if last.Addr < first || last.Addr > s.told.x.addr+s.told.x.size {
		c.t.Fatalf("word %d is touched by one who lets an object at %d go", last.Addr, s.told.x.addr)
	}
}

// end notes what somebody was told.
func (c *crowd) end(s *seat) {
	c.t.Helper()
	if s.d == nil {
		d := s.a.Done()
		if d != s.twin.Done() {
			c.t.Fatalf("%v, not %v", d, s.twin.Done())
		}
		c.told = append(c.told, told{true, d.Handle, false, d, s.began, c.e.Now()})
		if d.E == api.OK {
			c.made = append(c.made, d.Handle)
			c.owned[d.Handle] = ownOf(c.e.M.Peek(c.e.M.Last().Addr))
		}
		return
	}
	wantDone(c.t, s.d, s.told.want)
	c.told = append(c.told, told{false, s.told.x.number(), s.told.x.own, s.d.Done(), s.began, c.e.Now()})
}

// run lets somebody work on till it is done: what it was told.
func (c *crowd) run(who int) api.Done {
	c.t.Helper()
	most := 60 + 3*c.e.C.Chunks
	for ; c.busy(who); most-- {
		if most < 0 {
			c.t.Fatalf("%d is not done", who)
		}
		c.pick(who)
	}
	return c.told[len(c.told)-1].done
}

// rest lets all end what they do, and asks that all is as it must be.
func (c *crowd) rest() {
	c.t.Helper()
	for who := range c.seats {
		if c.busy(who) {
			c.run(who)
		}
	}
	if !slices.Equal(words(c.e.M), words(c.twin)) {
		c.t.Fatalf("the words are %v, not %v", words(c.e.M), words(c.twin))
	}
	c.wantLinear()
	c.wantSlots()
	c.wantCounted()
}

// wantLinear asks that what was told is what a plain store tells, each done at once at its step, while it was under way.
func (c *crowd) wantLinear() {
	c.t.Helper()
	l := slices.Clone(c.told)
	slices.SortStableFunc(l, func(a, b told) int { return cmp.Compare(a.done.Stamp, b.done.Stamp) })
	lives := map[uint64]bool{}
	for _, x := range l {
		if x.done.Stamp < x.began || x.done.Stamp > x.ended {
			c.t.Fatalf("%v took effect while it was not under way", x)
		}
		was := lives[x.number]
		switch {
		case x.made && x.done.E != api.OK:
		case x.made:
			if was {
				c.t.Fatalf("%v is told twice", x)
			}
			lives[x.number] = true
		default:
			is := was && c.owned[x.number] == x.own
			if is != (x.done.E == api.OK) || !is && x.done.E != api.ErrInvalid {
				c.t.Fatalf("%v: it lives is %v", x, was)
			}
			lives[x.number] = was && !is
		}
	}
	for number, is := range lives {
		w := c.e.M.Peek(slotAt(c.e.C, int(number&(1<<16-1))))
		if is != (stateOf(w) == live && genOf(w) == int(number>>16)) {
			c.t.Fatalf("%#x lives is %v, and its word is %#x", number, is, w)
		}
	}
}

// wantSlots asks that just those slots can be taken whose words are free, each once.
func (c *crowd) wantSlots() {
	c.t.Helper()
	l := freeOnes(c.e)
	slices.Sort(l)
	var want []int
	for s := range c.e.C.Slots {
		if stateOf(c.e.M.Peek(slotAt(c.e.C, s))) == free {
			want = append(want, s)
		}
	}
	if !slices.Equal(l, want) {
		c.t.Fatalf("free are %v, not %v", l, want)
	}
}

// wantCounted asks that of each chunk as many words are counted to live as objects have in it.
func (c *crowd) wantCounted() {
	c.t.Helper()
	has := make([]int, c.e.C.Chunks)
	for s := range c.e.C.Slots {
		if w := c.e.M.Peek(slotAt(c.e.C, s)); stateOf(w) == live {
			has[chunkOf(c.e.C, addrOf(w))] += rooms[classes[sizeOf(c.e.M.Peek(addrOf(w)))]]
		}
	}
	for i, n := range has {
		if w := c.e.M.Peek(chunkAt(c.e.C, i) + 1); w != uint64(n) {
			c.t.Fatalf("of chunk %d live %d words, not %d", i, w, n)
		}
	}
}

// goers is how many were told that they let an object go.
func (c *crowd) goers(number uint64) int {
	n := 0
	for _, x := range c.told {
		if !x.made && x.number == number && x.done.E == api.OK {
			n++
		}
	}
	return n
}

// eachOrder plays so many who let the same object of a size go, and are picked in each order of so many picks, behind so many steps of the first one.
func eachOrder(t *testing.T, gens, size, seats, ahead, length int) {
	orders := 1
	for range length {
		orders *= seats
	}
	a := arena(2, 2, 17)
	a.Gens = gens
	for order := range orders {
		c := newCrowd(t, a, seats)
		number := c.make(0, size, false)
		for who := range seats {
			c.drop(who, number, false)
		}
		for range ahead {
			c.pick(0)
		}
		for rest, i := order, 0; i < length; i++ {
			if who := rest % seats; c.busy(who) {
				c.pick(who)
			}
			rest /= seats
		}
		c.rest()
		if c.goers(number) != 1 || len(c.told) != seats+1 {
			t.Fatalf("%d let it go: %v", c.goers(number), c.told)
		}
	}
}

func TestTwoInEachOrder(t *testing.T) {
	for ahead := range 10 {
		eachOrder(t, 5, 1, 2, ahead, 10)
		eachOrder(t, 5, 2, 2, ahead, 9)
		eachOrder(t, 1, 2, 2, ahead, 9)
	}
}

func TestThreeInEachOrder(t *testing.T) {
	for ahead := range 9 {
		eachOrder(t, 5, 1, 3, ahead, 6)
		eachOrder(t, 1, 2, 3, ahead, 6)
	}
}

// mixed is a number below n, and the next state of what it is mixed from.
func mixed(x uint64, n int) (int, uint64) {
	x = x*6364136223846793005 + 1442695040888963407
	return int(x >> 33 % uint64(n)), x
}

func TestManyLetTheSameGo(t *testing.T) {
	for seed := range uint64(200) {
		seats := 2 + int(seed%7)
		c := newCrowd(t, arena(3, 2, 60), seats)
		number := c.make(0, 1+int(seed%16), seed%2 == 0)
		for who := range seats {
			c.drop(who, number, seed%2 == 0)
		}
		x := seed
		var who int
		for range 40 * seats {
			if who, x = mixed(x, seats); c.busy(who) {
				c.pick(who)
			}
		}
		c.rest()
		if c.goers(number) != 1 || len(c.told) != seats+1 {
			t.Fatalf("%d let it go: %v", c.goers(number), c.told)
		}
	}
}

// begin lets somebody begin something: an object is made, or one that was told is let go, or something of which none lives.
func (c *crowd) begin(who int, x uint64) uint64 {
	var what, which, size int
	what, x = mixed(x, 10)
	which, x = mixed(x, max(1, len(c.made)))
	size, x = mixed(x, api.MostSize)
	switch {
	case what < 4 || len(c.made) == 0:
		c.alloc(who, 1+size, x>>40&1 == 0)
	case what == 4:
		c.drop(who, handle(size%c.e.C.Slots, 1+which%7), x>>40&1 == 0)
	case what == 5:
		c.drop(who, c.made[which], !c.owned[c.made[which]])
	default:
		// Most often one of the last ones, so that several are at the same one.
		number := c.made[max(which, len(c.made)-1-size%3)]
		c.drop(who, number, c.owned[number])
	}
	return x
}

func TestManyWhoeverIsPicked(t *testing.T) {
	for seed := range uint64(150) {
		seats, slots := 1+int(seed%8), 1+int(seed*5%9)
		a := arena(slots, 20, 17+int(seed*7%200))
		a.Gens = 1 + int(seed%13)
		c := newCrowd(t, a, seats)
		x := seed
		var who int
		for range 1500 {
			if who, x = mixed(x, seats); !c.busy(who) {
				x = c.begin(who, x)
			}
			c.pick(who)
		}
		c.rest()
	}
}

func TestSlotsAreRetiredWhoeverIsPicked(t *testing.T) {
	// Each slot has so many lives, and no more, whoever lets its objects go.
	for seed := range uint64(30) {
		const seats, slots, lives = 3, 2, 4
		a := arena(slots, 8, 60)
		a.Gens = lives
		c := newCrowd(t, a, seats)
		x := seed
		var who int
		for range slots * lives {
			number := c.make(0, 1+int(seed%4), false)
			if number == 0 {
				t.Fatal("a slot is lost")
			}
			for who := range seats {
				c.drop(who, number, false)
			}
			for range 20 {
				if who, x = mixed(x, seats); c.busy(who) {
					c.pick(who)
				}
			}
			c.rest()
		}
		if c.make(0, 1, false) != 0 || c.told[len(c.told)-1].done.E != api.ErrHandles {
			t.Fatal("a slot that is retired was taken")
		}
		for s := range slots {
			if w := c.e.M.Peek(slotAt(a, s)); w != slotWord(retired, 0, lives, 0) {
				t.Fatalf("the word of slot %d is %#x", s, w)
			}
		}
	}
}

func TestOneThatIsNeverPickedAgainStopsNobody(t *testing.T) {
	for size := 1; size <= api.MostSize; size += 3 {
		for half := range 2*size + 8 {
			c := newCrowd(t, arena(6, 6, 60), 4)
			number, other := c.make(0, size, false), c.make(0, size, false)
			c.drop(1, number, false)
			for range half {
				c.pick(1)
			}
			// Others let the same object go, and another one, and make new ones: all of them end.
			c.drop(0, number, false)
			d := c.run(0)
			if d.E == api.OK != (half < 3) {
				t.Fatalf("behind %d steps of another one: %v", half, d)
			}
			c.drop(2, number, false)
			if d := c.run(2); d.E != api.ErrInvalid {
				t.Fatalf("behind %d steps of another one: %v", half, d)
			}
			c.drop(3, other, false)
			if d := c.run(3); d.E != api.OK {
				t.Fatalf("behind %d steps of another one: %v", half, d)
			}
			for range 4 {
				if c.make(0, size, true) == 0 {
					t.Fatalf("behind %d steps of another one: %v", half, c.told)
				}
			}
			c.rest()
			if c.goers(number) != 1 {
				t.Fatal(c.told)
			}
		}
	}
}

func TestTwoThatAreNeverPickedAgainStopNobody(t *testing.T) {
	for one := range 12 {
		for two := range 16 {
			c := newCrowd(t, arena(4, 4, 40), 3)
			number := c.make(0, 2, false)
			c.drop(1, number, false)
			c.drop(2, number, false)
			for i := range max(one, two) {
				if i < one && c.busy(1) {
					c.pick(1)
				}
				if i < two && c.busy(2) {
					c.pick(2)
				}
			}
			c.drop(0, number, false)
			c.run(0)
			c.drop(0, number, false)
			if d := c.run(0); d.E != api.ErrInvalid {
				t.Fatal(d)
			}
			if c.make(0, 2, false) == 0 {
				t.Fatal("nothing can be made")
			}
			c.rest()
			if c.goers(number) != 1 {
				t.Fatal(c.told)
			}
		}
	}
}

func TestSomeoneEndsWhoeverIsPicked(t *testing.T) {
	// It is in vain only if another one marked the object, froze a cell, ended its life, or took or gave a slot.
	for seed := range uint64(30) {
		const seats = 4
		a := arena(6, 40, 200)
		a.Gens = api.MostGen
		c := newCrowd(t, a, seats)
		x := seed
		var who int
		for range 30 {
			was := len(c.told)
			for range seats * (3*(2*api.MostSize+8) + 2*a.Chunks) {
				if who, x = mixed(x, seats); !c.busy(who) {
					x = c.begin(who, x)
				}
				c.pick(who)
			}
			if len(c.told) == was {
				t.Fatal("nobody ended")
			}
		}
		c.rest()
	}
}
