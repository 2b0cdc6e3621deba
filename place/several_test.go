package place_test

import (
	"testing"

	"footlocker/api"
	"footlocker/layout"
	"footlocker/place"
)

// doer is somebody who wants words, as the chapter's words tell it: what is done next, and the words that were loaded.
type doer struct {
	at    func(e layout.Env) (touch, bool)
	class int
	seen  uint64
	i     int
	w     uint64
	got   api.Spot
	is    bool
}

func newDoer(class int) *doer {
	d := &doer{class: class}
	d.at = d.see
	return d
}

// see: which chunk is open is loaded.
func (d *doer) see(e layout.Env) (touch, bool) {
	d.seen = e.M.Peek(openAt(d.class))
	if d.seen == 0 {
		d.i, d.at = 0, d.look
	} else {
		d.i, d.at = int(d.seen)-1, d.ask
	}
	return touch{openAt(d.class), d.seen}, false
}

// ask: its word is loaded; if it is open, of the class, and has room, it grows; else chunks are looked at.
func (d *doer) ask(e layout.Env) (touch, bool) {
	at := touch{chunkAt(e.C, d.i), wordOf(e, d.i)}
	d.w = at.w
	if stateOf(d.w) == open && classOf(d.w) == d.class && e.C.Words-usedOf(d.w) >= rooms[d.class] {
		d.at = d.grow
	} else {
		d.i, d.at = 0, d.look
	}
	return at, false
}

// grow: by Cas its Used grows by Room (or all begins anew): done.
func (d *doer) grow(e layout.Env) (touch, bool) {
	if w := wordOf(e, d.i); w != d.w {
		d.at = d.see
		return touch{chunkAt(e.C, d.i), w}, false
	}
	d.got, d.is = api.Spot{Addr: baseAt(e.C, d.i) + usedOf(d.w), Chunk: d.i}, true
	return touch{chunkAt(e.C, d.i), d.w + uint64(rooms[d.class])<<8}, true
}

// look: chunks are looked at, from the first on.
func (d *doer) look(e layout.Env) (touch, bool) {
	at := touch{chunkAt(e.C, d.i), wordOf(e, d.i)}
	d.w = at.w
	if stateOf(d.w) == free {
		d.at = d.take
		return at, false
	}
	return at, d.passed(e)
}

// passed: when there is no more chunk to look at: done, without words.
func (d *doer) passed(e layout.Env) bool {
	d.i++
	d.at = d.look
	return d.i == e.C.Chunks
}

// take: a free one is taken by Cas (or the next one is looked at).
func (d *doer) take(e layout.Env) (touch, bool) {
	addr := chunkAt(e.C, d.i)
	if w := wordOf(e, d.i); w != d.w {
		return touch{addr, w}, d.passed(e)
	}
	d.at = d.show
	return touch{addr, chunk(open, d.class, 0, stampOf(d.w)+1)}, false
}

// show: by Cas it is the open chunk, if that is still the one that was seen, and all begins anew; else it is given back.
func (d *doer) show(e layout.Env) (touch, bool) {
	if w := e.M.Peek(openAt(d.class)); w != d.seen {
		d.at = d.back
		return touch{openAt(d.class), w}, false
	}
	d.at = d.see
	return touch{openAt(d.class), uint64(d.i) + 1}, false
}

// back: it is free again (Stamp one more), and all begins anew.
func (d *doer) back(e layout.Env) (touch, bool) {
	d.at = d.see
	return touch{chunkAt(e.C, d.i), chunk(free, 0, 0, stampOf(d.w)+2)}, false
}

// seat is one of several: what it does now, and what the chapter tells of it.
type seat struct {
	p    *place.Place
	told *doer
}

// crowd is several who work in one memory, and whose each word is: 0 is nobody's, else it is the class and 1.
type crowd struct {
	t     *testing.T
	e     layout.Env
	seats []seat
	owned []int
	ended int
	got   int
}

func newCrowd(t *testing.T, c api.Config, seats int) *crowd {
	t.Helper()
	e := filled(t, c, 0)
	return &crowd{t: t, e: e, seats: make([]seat, seats), owned: make([]int, e.M.Len())}
}

// busy is whether somebody is on the way.
func (c *crowd) busy(who int) bool {
	return c.seats[who].told != nil
}

// begin lets somebody begin.
func (c *crowd) begin(who, class int) {
	c.seats[who] = seat{place.New(class), newDoer(class)}
}

// pick lets the one that is picked do a step, and asks that it is the one that the chapter tells.
func (c *crowd) pick(who int) {
	c.t.Helper()
	s := &c.seats[who]
	c.e.Who = who
	want, done := s.told.at(c.e)
	wantStep(c.t, c.e, s.p, want, done)
	if !done {
		wantSpot(c.t, s.p, api.Spot{}, false)
		return
	}
	c.ended++
	wantSpot(c.t, s.p, s.told.got, s.told.is)
	if s.told.is {
		c.own(s.told.class, s.told.got)
	}
	*s = seat{}
}

// own asks that words that were got are in a chunk of their class, within what is used of it, and nobody else's.
func (c *crowd) own(class int, s api.Spot) {
	c.t.Helper()
	c.got++
	w := wordOf(c.e, s.Chunk)
	first := baseAt(c.e.C, s.Chunk)
	if stateOf(w) != open || classOf(w) != class || s.Addr < first || s.Addr+rooms[class] > first+usedOf(w) || usedOf(w) > c.e.C.Words {
		c.t.Fatalf("class %d got %v of a chunk %#x", class, s, w)
	}
	for a := s.Addr; a < s.Addr+rooms[class]; a++ {
		if c.owned[a] != 0 {
			c.t.Fatalf("word %d is given to two", a)
		}
		c.owned[a] = class + 1
	}
}

// run lets somebody work on till it is done.
func (c *crowd) run(who, class int) {
	c.t.Helper()
	if !c.busy(who) {
		c.begin(who, class)
	}
	for c.busy(who) {
		c.pick(who)
	}
}

// rest lets all end what they do, and asks that words are used just as they were given out, and that no chunk is kept by nobody.
func (c *crowd) rest() {
	c.t.Helper()
	for who := range c.seats {
		if c.busy(who) {
			c.run(who, 0)
		}
	}
	for i := range c.e.C.Chunks {
		c.wantWhole(i)
	}
	for a := range baseAt(c.e.C, 0) {
		if c.owned[a] != 0 {
			c.t.Fatalf("word %d is none of a chunk's, and was given out", a)
		}
	}
}

// wantWhole asks that a chunk is free, or was opened, and that all that is used of it was given out for its class.
func (c *crowd) wantWhole(i int) {
	c.t.Helper()
	w := wordOf(c.e, i)
	if stateOf(w) == open && usedOf(w) == 0 && c.e.M.Peek(openAt(classOf(w))) != uint64(i+1) {
		c.t.Fatalf("chunk %d was taken, and is neither open nor free", i)
	}
	for k := range c.e.C.Words {
		want := 0
		if k < usedOf(w) {
			want = classOf(w) + 1
		}
		if got := c.owned[baseAt(c.e.C, i)+k]; got != want {
			c.t.Fatalf("word %d of chunk %d, of which %d are used, is of class %d, not %d", k, i, usedOf(w), got-1, want-1)
		}
	}
}

// eachOrder plays so many who are picked in each order of so many picks, each for a class of its own.
func eachOrder(t *testing.T, a api.Config, length int, classes ...int) {
	seats := len(classes)
	orders := 1
	for range length {
		orders *= seats
	}
	for order := range orders {
		c := newCrowd(t, a, seats)
		for rest, i := order, 0; i < length; i++ {
			who := rest % seats
			rest /= seats
			if !c.busy(who) {
				c.begin(who, classes[who])
			}
			c.pick(who)
		}
		c.rest()
	}
}

func TestTwoInEachOrder(t *testing.T) {
	for chunks := 1; chunks <= 3; chunks++ {
		eachOrder(t, arena(chunks, 17), 12, 0, 0)
		eachOrder(t, arena(chunks, 17), 12, 3, 3)
		eachOrder(t, arena(chunks, 17), 10, 2, 3)
	}
}

func TestThreeInEachOrder(t *testing.T) {
	for chunks := 1; chunks <= 3; chunks++ {
		eachOrder(t, arena(chunks, 17), 8, 3, 3, 3)
		eachOrder(t, arena(chunks, 17), 8, 2, 2, 0)
	}
}

// mixed is a number below n, and the next state of what it is mixed from.
func mixed(x uint64, n int) (int, uint64) {
	x = x*6364136223846793005 + 1442695040888963407
	return int(x >> 33 % uint64(n)), x
}

func TestManyWhoeverIsPicked(t *testing.T) {
	for seed := range uint64(60) {
		seats, chunks, words := 1+int(seed%8), 1+int(seed/3%9), 17+int(seed*7%50)
		c := newCrowd(t, arena(chunks, words), seats)
		x := seed
		var who, class int
		for range 700 {
			who, x = mixed(x, seats)
			if !c.busy(who) {
				class, x = mixed(x, 1+int(seed%4))
				c.begin(who, class)
			}
			c.pick(who)
		}
		c.rest()
		c.wantFull(1 + int(seed%4))
	}
}

// wantFull asks that who then wants words, alone, gets all that is left.
func (c *crowd) wantFull(classes int) {
	c.t.Helper()
	for class := range classes {
		for was := -1; was != c.got; {
			was = c.got
			c.run(0, class)
		}
		if w := c.e.M.Peek(openAt(class)); w != 0 && c.e.C.Words-usedOf(wordOf(c.e, int(w)-1)) >= rooms[class] {
			c.t.Fatalf("class %d was refused, and its open chunk has room", class)
		}
	}
	for i := range c.e.C.Chunks {
		if stateOf(wordOf(c.e, i)) == free {
			c.t.Fatalf("all were refused, and chunk %d is free", i)
		}
	}
	c.rest()
}

func TestChunksThatAreFreeAgainWhoeverIsPicked(t *testing.T) {
	// A chunk that is not open for anybody is free again now and then, as a compactor does it while nobody looks into it.
	for seed := range uint64(30) {
		c := newCrowd(t, arena(5, 34), 4)
		x := seed
		var who, class int
		for i := range 900 {
			who, x = mixed(x, 4)
			if !c.busy(who) {
				class, x = mixed(x, 2)
				c.begin(who, 2+class)
			}
			c.pick(who)
			if i%40 == 39 {
				c.rest()
				c.freeFull()
			}
		}
		c.rest()
		if c.got < 40 {
			t.Errorf("only %d got words", c.got)
		}
	}
}

// freeFull makes each chunk free that is no open one.
func (c *crowd) freeFull() {
	for i := range c.e.C.Chunks {
		w := wordOf(c.e, i)
		if stateOf(w) != open || c.e.M.Peek(openAt(classOf(w))) == uint64(i+1) {
			continue
		}
		lay(c.e, i, chunk(free, 0, 0, stampOf(w)+3))
		for k := range c.e.C.Words {
			c.owned[baseAt(c.e.C, i)+k] = 0
		}
	}
}

func TestSomeoneEndsWhoeverIsPicked(t *testing.T) {
	// It is in vain only if another one got words, or opened a chunk from which the next one gets some.
	for seed := range uint64(20) {
		const seats, chunks = 4, 3
		c := newCrowd(t, arena(chunks, 60), seats)
		x := seed
		var who int
		for range 40 {
			was := c.ended
			for range 2 * seats * (2*chunks + 8) {
				who, x = mixed(x, seats)
				if !c.busy(who) {
					c.begin(who, int(seed%4))
				}
				c.pick(who)
			}
			if c.ended == was {
				t.Fatal("nobody ended")
			}
		}
	}
}

func TestOneThatIsNeverPickedAgainStopsNobody(t *testing.T) {
	for half := range 7 {
		c := newCrowd(t, arena(4, 40), 3)
		c.begin(1, 1)
		for range half {
			c.pick(1)
		}
		// It keeps a chunk at most.
		for range 16 {
			c.run(0, 1)
			c.run(2, 1)
		}
		if c.got < 24 {
			t.Errorf("behind %d steps of another one only %d got words", half, c.got)
		}
		c.rest()
	}
}

func TestOfTwoThatOpenOneGivesItsChunkBack(t *testing.T) {
	e := filled(t, arena(3, 40), 0)
	a, b := place.New(2), place.New(2)
	wantSeen(t, e, a, 2, -1)
	wantSeen(t, e, b, 2, -1)
	wantLook(t, e, a, 0)
	wantLook(t, e, b, 0)
	wantTake(t, e, a, 2, 0)
	wantOn(t, e, b, chunkAt(e.C, 0), chunk(open, 2, 0, 1))
	wantLook(t, e, b, 1)
	wantTake(t, e, b, 2, 1)
	wantOn(t, e, b, openAt(2), 2)
	wantOn(t, e, a, openAt(2), 2)
	wantOn(t, e, a, chunkAt(e.C, 0), chunk(free, 0, 0, 2))
	wantSeen(t, e, a, 2, 1)
	wantSeen(t, e, b, 2, 1)
	wantLook(t, e, b, 1)
	wantGrown(t, e, a, 2, 1)
	wantOn(t, e, b, chunkAt(e.C, 1), chunk(open, 2, 9, 1))
	wantSeen(t, e, b, 2, 1)
	wantGrown(t, e, b, 2, 1)
	wantSpot(t, a, api.Spot{Addr: baseAt(e.C, 1), Chunk: 1}, true)
	wantSpot(t, b, api.Spot{Addr: baseAt(e.C, 1) + 9, Chunk: 1}, true)
}
