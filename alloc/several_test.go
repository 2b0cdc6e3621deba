package alloc_test

import (
	"slices"
	"testing"

	"footlocker/alloc"
	"footlocker/api"
	"footlocker/layout"
	"footlocker/mem"
	"footlocker/place"
	"footlocker/slot"
)

// doer is somebody who makes an object as the chapter's words tell it, in a memory of its own: what is done next, and what is known of the object. Of slots and of words the layers below tell it.
type doer struct {
	at    func(e layout.Env) bool
	x     thing
	take  slot.Take
	place *place.Place
	give  *slot.Give
	want  api.Done
}

func newDoer(size int, own bool) *doer {
	d := &doer{x: thing{size: size, own: own}}
	d.at = d.taking
	return d
}

// taking: a slot is taken; none: ErrHandles.
func (d *doer) taking(e layout.Env) bool {
	if !d.take.Step(e) {
		return false
	}
	s, is := d.take.Slot()
	d.x.slot, d.at = s, d.loading
	d.want = api.Done{E: api.ErrHandles, Stamp: e.Now()}
	return !is
}

// loading: its word is loaded (Gen).
func (d *doer) loading(e layout.Env) bool {
	d.x.gen = genOf(e.Load(slotAt(e.C, d.x.slot)))
	d.place, d.at = place.New(classes[d.x.size]), d.placing
	return false
}

// placing: words are got; none: the slot is given back.
func (d *doer) placing(e layout.Env) bool {
	if !d.place.Step(e) {
		return false
	}
	s, is := d.place.Spot()
	d.x.spot, d.at = s, d.counting
	if !is {
		d.give, d.at = slot.NewGive(d.x.slot), d.giving
	}
	return false
}

// giving: ErrMemory.
func (d *doer) giving(e layout.Env) bool {
	is := d.give.Step(e)
	d.want = api.Done{E: api.ErrMemory, Stamp: e.Now()}
	return is
}

// counting: the chunk's live words grow by Room.
func (d *doer) counting(e layout.Env) bool {
	e.Add(chunkAt(e.C, d.x.spot.Chunk)+1, rooms[classes[d.x.size]])
	d.at = d.heading
	return false
}

// heading: the head is laid (Pending).
func (d *doer) heading(e layout.Env) bool {
	e.Store(d.x.spot.Addr, head(pending, d.x.size, d.x.slot, d.x.gen, d.x.own))
	d.at = d.showing
	return false
}

// showing: the handle's word is laid (Live, Ver 0): by that it takes effect.
func (d *doer) showing(e layout.Env) bool {
	e.Store(slotAt(e.C, d.x.slot), slotWord(live, d.x.spot.Addr, d.x.gen, 0))
	d.want = api.Done{Handle: handle(d.x.slot, d.x.gen), Stamp: e.Now()}
	d.at = d.ending
	return false
}

// ending: the head is laid (Ready).
func (d *doer) ending(e layout.Env) bool {
	e.Store(d.x.spot.Addr, head(ready, d.x.size, d.x.slot, d.x.gen, d.x.own))
	return true
}

// seat is one of several: what it does, and what the chapter tells of it.
type seat struct {
	a    *alloc.Alloc
	told *doer
}

// crowd is several who work in one memory; what the chapter tells of them, in another one; and the objects that were made.
type crowd struct {
	t     *testing.T
	e     layout.Env
	told  *mem.Mem
	seats []seat
	made  []thing
	ended int
}

func newCrowd(t *testing.T, c api.Config, seats int) *crowd {
	t.Helper()
	return &crowd{t: t, e: entered(t, c, 0), told: entered(t, c, 0).M, seats: make([]seat, seats)}
}

// busy is whether somebody is on the way.
func (c *crowd) busy(who int) bool {
	return c.seats[who].a != nil
}

// begin lets somebody begin.
func (c *crowd) begin(who, size int) {
	own := who%2 == 0
	c.seats[who] = seat{alloc.New(size, own), newDoer(size, own)}
}

// pick lets the one that is picked do a step, and asks that it is the one that the chapter tells.
func (c *crowd) pick(who int) {
	c.t.Helper()
	s := &c.seats[who]
	c.e.Who = who
	want := s.told.at(layout.Env{C: c.e.C, M: c.told, Who: who})
	done := s.a.Step(c.e)
	if done != want || c.e.Now() != c.told.Steps() || c.e.M.Last() != c.told.Last() {
		c.t.Fatalf("by %d: %v, step %d, %v, not %v, step %d, %v", who, done, c.e.Now(), c.e.M.Last(), want, c.told.Steps(), c.told.Last())
	}
	c.wantTouched(s.told)
	if !done {
		wantDone(c.t, s.a, api.Done{})
		return
	}
	wantDone(c.t, s.a, s.told.want)
	c.ended++
	if s.told.want.E == api.OK {
		c.made = append(c.made, s.told.x)
	}
	*s = seat{}
}

// wantTouched asks that the word that was touched is what it must be, and, if it is one of a chunk's, the head of the one that touched it, in words that were given out. All words were the same ahead of it, so that just that one can be another one.
func (c *crowd) wantTouched(d *doer) {
	c.t.Helper()
	a := c.e.M.Last().Addr
	if c.e.M.Peek(a) != c.told.Peek(a) {
		c.t.Fatalf("word %d is %#x, not %#x", a, c.e.M.Peek(a), c.told.Peek(a))
	}
	if a < baseAt(c.e.C, 0) {
		return
	}
	i := (a - baseAt(c.e.C, 0)) / c.e.C.Words
	if w := wordOf(c.e, i); a != d.x.spot.Addr || stateOf(w) == free || a-baseAt(c.e.C, i) >= usedOf(w) {
		c.t.Fatalf("word %d is touched, of a chunk %#x, by one whose object is at %v", a, w, d.x.spot)
	}
}

// run lets somebody work on till it is done.
func (c *crowd) run(who, size int) {
	c.t.Helper()
	if !c.busy(who) {
		c.begin(who, size)
	}
	for c.busy(who) {
		c.pick(who)
	}
}

// rest lets all end what they do, and asks that all is as it must be.
func (c *crowd) rest() {
	c.t.Helper()
	for who := range c.seats {
		if c.busy(who) {
			c.run(who, 0)
		}
	}
	if !slices.Equal(words(c.e.M), words(c.told)) {
		c.t.Fatalf("the words are %v, not %v", words(c.e.M), words(c.told))
	}
	wantFits(c.t, c.e)
	c.wantApart()
	c.wantCounted()
}

// wantApart asks that each object has a handle, words and a head of its own, and that all its words are noughts.
func (c *crowd) wantApart() {
	c.t.Helper()
	whose := make([]int, c.e.M.Len())
	for i, x := range c.made {
		if w := c.e.M.Peek(slotAt(c.e.C, x.slot)); w != slotWord(live, x.spot.Addr, x.gen, 0) {
			c.t.Fatalf("the handle's word of %v is %#x", x, w)
		}
		if w := c.e.M.Peek(x.spot.Addr); w != head(ready, x.size, x.slot, x.gen, x.own) {
			c.t.Fatalf("the head of %v is %#x", x, w)
		}
		for k := range rooms[classes[x.size]] {
			a := x.spot.Addr + k
			if whose[a] != 0 {
				c.t.Fatalf("word %d is %v's and %v's", a, c.made[whose[a]-1], x)
			}
			whose[a] = i + 1
			if k > 0 && c.e.M.Peek(a) != 0 {
				c.t.Fatalf("word %d of %v is %#x", k, x, c.e.M.Peek(a))
			}
		}
	}
}

// wantCounted asks that of each chunk as many words are used, and are counted to live, as objects have in it, and that those are of its class.
func (c *crowd) wantCounted() {
	c.t.Helper()
	has := make([]int, c.e.C.Chunks)
	for _, x := range c.made {
		w := wordOf(c.e, x.spot.Chunk)
		first := baseAt(c.e.C, x.spot.Chunk)
		room := rooms[classes[x.size]]
		if stateOf(w) != open || classOf(w) != classes[x.size] || x.spot.Addr < first || x.spot.Addr+room > first+c.e.C.Words {
			c.t.Fatalf("%v is in a chunk %#x", x, w)
		}
		has[x.spot.Chunk] += room
	}
	for i, n := range has {
		used, lives := usedOf(wordOf(c.e, i)), c.e.M.Peek(chunkAt(c.e.C, i)+1)
		if used != n || lives != uint64(n) {
			c.t.Fatalf("of chunk %d %d words are used, %d live, not %d", i, used, lives, n)
		}
	}
}

// eachOrder plays so many who are picked in each order of so many picks, behind so many steps of the first one, each for a size of its own.
func eachOrder(t *testing.T, a api.Config, ahead, length int, sizes ...int) {
	seats := len(sizes)
	orders := 1
	for range length {
		orders *= seats
	}
	for order := range orders {
		c := newCrowd(t, a, seats)
		for range ahead {
			c.step(0, sizes[0])
		}
		for rest, i := order, 0; i < length; i++ {
			c.step(rest%seats, sizes[rest%seats])
			rest /= seats
		}
		c.rest()
	}
}

// step lets somebody do a step, and begin, if it is on no way.
func (c *crowd) step(who, size int) {
	c.t.Helper()
	if !c.busy(who) {
		c.begin(who, size)
	}
	c.pick(who)
}

func TestTwoInEachOrder(t *testing.T) {
	for ahead := range 15 {
		eachOrder(t, arena(2, 2, 17), ahead, 9, 2, 2)
		eachOrder(t, arena(3, 1, 17), ahead, 9, 16, 16)
		eachOrder(t, arena(1, 2, 17), ahead, 8, 3, 8)
	}
}

func TestThreeInEachOrder(t *testing.T) {
	for ahead := range 8 {
		eachOrder(t, arena(2, 1, 17), 2*ahead, 6, 4, 16, 3)
		eachOrder(t, arena(4, 2, 17), 2*ahead, 6, 16, 16, 16)
	}
}

// mixed is a number below n, and the next state of what it is mixed from.
func mixed(x uint64, n int) (int, uint64) {
	x = x*6364136223846793005 + 1442695040888963407
	return int(x >> 33 % uint64(n)), x
}

func TestManyWhoeverIsPicked(t *testing.T) {
	for seed := range uint64(120) {
		seats, slots, chunks, words := 1+int(seed%8), 1+int(seed*5%23), 1+int(seed/3%9), 17+int(seed*7%50)
		c := newCrowd(t, arena(slots, chunks, words), seats)
		x := seed
		var who, size int
		for range 900 {
			who, x = mixed(x, seats)
			size, x = mixed(x, api.MostSize)
			c.step(who, 1+size)
		}
		c.rest()
		c.wantFull()
	}
}

// wantFull asks that who then makes objects, alone, is refused just if there is no slot, or no room.
func (c *crowd) wantFull() {
	c.t.Helper()
	for class, room := range rooms {
		for was := -1; was != len(c.made); {
			was = len(c.made)
			c.run(0, 2<<class)
		}
		if len(c.made) == c.e.C.Slots {
			continue
		}
		if w := c.e.M.Peek(openAt(class)); w != 0 && c.e.C.Words-usedOf(wordOf(c.e, int(w)-1)) >= room {
			c.t.Fatalf("class %d was refused, and its open chunk has room", class)
		}
		for i := range c.e.C.Chunks {
			if stateOf(wordOf(c.e, i)) == free {
				c.t.Fatalf("class %d was refused, and chunk %d is free", class, i)
			}
		}
	}
	c.rest()
}

func TestSlotsAreAllTheirsWhoeverIsPicked(t *testing.T) {
	// Most are refused for want of room, while others take the same slots: none is lost, and none comes twice.
	for seed := range uint64(40) {
		slots := 2 + int(seed%5)
		c := newCrowd(t, arena(slots, 1, 17), 4)
		x := seed
		var who int
		for range 600 {
			who, x = mixed(x, 4)
			c.step(who, 16)
		}
		c.rest()
		if len(c.made) != 1 || len(freeOnes(c.e)) != slots-1 || c.ended < 20 {
			t.Fatal(len(c.made), freeOnes(c.e), c.ended)
		}
	}
}

func TestSomeoneEndsWhoeverIsPicked(t *testing.T) {
	// It is in vain only if another one took or gave a slot, got words, or opened a chunk.
	for seed := range uint64(20) {
		const seats, chunks = 4, 3
		c := newCrowd(t, arena(30, chunks, 60), seats)
		x := seed
		var who int
		for range 30 {
			was := c.ended
			for range 3 * seats * (2*chunks + 18) {
				who, x = mixed(x, seats)
				c.step(who, 2<<(seed%4))
			}
			if c.ended == was {
				t.Fatal("nobody ended")
			}
		}
		c.rest()
	}
}

func TestOneThatIsNeverPickedAgainStopsNobody(t *testing.T) {
	for half := range 15 {
		c := newCrowd(t, arena(20, 6, 40), 3)
		for range half {
			c.step(1, 3)
		}
		// It keeps a slot at most, and a chunk, or words of one.
		for range 9 {
			c.run(0, 3)
			c.run(2, 4)
		}
		if len(c.made) != 18 {
			t.Errorf("behind %d steps of another one only %d were made", half, len(c.made))
		}
		if half > 0 {
			c.run(1, 3)
		}
		c.rest()
	}
}

func TestTwoStepByStep(t *testing.T) {
	// By turns: of two that take a slot one begins anew, and of two that open a chunk one passes on to the next one, and gives it back.
	c := newCrowd(t, arena(4, 3, 40), 2)
	for range 60 {
		for who := range 2 {
			if len(c.made) < 2 && (c.busy(who) || c.e.Now() < 16) {
				c.step(who, 5)
			}
		}
	}
	c.rest()
	if len(c.made) != 2 || c.made[0].slot == c.made[1].slot || c.made[0].spot == c.made[1].spot {
		t.Error(c.made)
	}
}
