package access_test

import (
	"cmp"
	"slices"
	"testing"

	"footlocker/access"
	"footlocker/alloc"
	"footlocker/api"
	"footlocker/drop"
	"footlocker/layout"
	"footlocker/mem"
	"footlocker/place"
)

// doer is somebody who reads or lays a word as the chapter's words tell it, in a memory of its own: what is done next, and what is known of the object. How it is helped the layer below tells it.
type doer struct {
	at     func(e layout.Env) bool
	want   api.Want
	own    bool
	x      thing
	seen   int    // the step at which the slot's word was loaded
	cell   uint64 // as it was loaded
	loaded int    // the step of that
	help   *drop.Help
	told   api.Done
}

func newDoer(want api.Want, own bool) *doer {
	d := &doer{want: want, own: own}
	d.x.slot, d.x.gen = int(want.Handle&(1<<16-1)), int(want.Handle>>16)
	d.at = d.seeing
	return d
}

func (d *doer) Step(e layout.Env) bool { return d.at(e) }

// over: it came to that.
func (d *doer) over(why api.Errno, value, stamp int) bool {
	d.told = api.Done{E: why, Value: value, Stamp: stamp}
	return true
}

// seeing: the slot's word is loaded; ErrInvalid, if no object lives by the handle.
func (d *doer) seeing(e layout.Env) bool {
	w := e.Load(slotAt(e.C, d.x.slot))
	d.seen = e.Now()
	if !lives(w, d.x.gen) {
		return d.over(api.ErrInvalid, 0, e.Now())
	}
	d.x.state, d.x.addr, d.x.ver = stateOf(w), addrOf(w), verOf(w)
	d.at = d.asking
	return false
}

// asking: the head is loaded; ErrInvalid, if it is not Own as is said; ErrIndex, if it has no such word.
func (d *doer) asking(e layout.Env) bool {
	h := e.Load(d.x.addr)
	d.x.size, d.x.own = sizeOf(h), ownOf(h)
	if d.x.own != d.own {
		return d.over(api.ErrInvalid, 0, e.Now())
	}
	if d.want.Index < 0 || d.want.Index >= d.x.size {
		return d.over(api.ErrIndex, 0, d.seen)
	}
	d.at = d.loading
	return false
}

// loading: the cell is loaded.
func (d *doer) loading(e layout.Env) bool {
	d.cell = e.Load(d.x.at(d.want.Index))
	d.loaded = e.Now()
	switch {
	case d.want.Kind == reading || d.otherIs():
		d.at = d.checking
	case d.x.state == dropping:
		d.help = drop.NewHelp(d.x.slot, d.x.word(), d.x.size)
		d.at = d.helping
	case d.x.state == moving && frozenIn(d.cell) == d.x.ver:
		d.at = d.stopping
	case frozenIn(d.cell) >= d.x.ver:
		d.at = d.seeing
	default:
		d.at = d.laying
	}
	return false
}

// otherIs: Old is not there.
func (d *doer) otherIs() bool {
	return d.want.Kind == exchanging && valueOf(d.cell) != d.want.Old
}

// checking: the slot's word is loaded once more.
func (d *doer) checking(e layout.Env) bool {
	w := e.Load(slotAt(e.C, d.x.slot))
	if !lives(w, d.x.gen) {
		return d.over(api.ErrInvalid, 0, e.Now())
	}
	if addrOf(w) != d.x.addr {
		d.at = d.seeing
		return false
	}
	if d.otherIs() {
		return d.over(api.ErrOther, valueOf(d.cell), d.loaded)
	}
	return d.over(api.OK, valueOf(d.cell), d.loaded)
}

// helping: that the object is let go is helped, and all begins anew.
func (d *doer) helping(e layout.Env) bool {
	if d.help.Step(e) {
		d.at = d.seeing
	}
	return false
}

// stopping: by Cas of the word that was seen it is Live, its Ver one more, and all begins anew.
func (d *doer) stopping(e layout.Env) bool {
	e.Cas(slotAt(e.C, d.x.slot), d.x.word(), slotWord(live, d.x.addr, d.x.gen, d.x.ver+1))
	d.at = d.seeing
	return false
}

// laying: by Cas of the cell the value is laid, or all begins anew.
func (d *doer) laying(e layout.Env) bool {
	if e.Cas(d.x.at(d.want.Index), d.cell, uint64(d.want.Value)) {
		return d.over(api.OK, valueOf(d.cell), e.Now())
	}
	d.at = d.seeing
	return false
}

// mover is somebody who moves the object of a slot elsewhere, as one who evacuates chunks does: a copy is laid, while the cells are frozen one by one, and shown by one Cas.
type mover struct {
	at    func(e layout.Env) bool
	x     thing // as it was seen
	get   *place.Place
	copy  thing
	cell  int
	held  uint64
	tries int
	moved bool
}

func newMover(s, gen int) *mover {
	m := &mover{x: thing{slot: s, gen: gen}}
	m.at = m.seeing
	return m
}

func (m *mover) Step(e layout.Env) bool { return m.at(e) }

func (m *mover) seeing(e layout.Env) bool {
	w := e.Load(slotAt(e.C, m.x.slot))
	if stateOf(w) != live || genOf(w) != m.x.gen {
		return m.givenUp()
	}
	m.x.state, m.x.addr, m.x.ver, m.cell = live, addrOf(w), verOf(w), 0
	m.at = m.asking
	if m.get != nil {
		m.at = m.marking
	}
	return false
}

func (m *mover) asking(e layout.Env) bool {
	h := e.Load(m.x.addr)
	m.x.size, m.x.own = sizeOf(h), ownOf(h)
	m.get = place.New(classes[m.x.size])
	m.at = m.placing
	return false
}

func (m *mover) placing(e layout.Env) bool {
	if !m.get.Step(e) {
		return false
	}
	at, is := m.get.Spot()
	m.copy = m.x
	m.copy.addr = at.Addr
	m.at = m.heading
	return !is
}

func (m *mover) heading(e layout.Env) bool {
	m.layHead(e, pending)
	m.at = m.marking
	return false
}

func (m *mover) layHead(e layout.Env, kind int) {
	e.Store(m.copy.addr, head(kind, m.x.size, m.x.slot, m.x.gen, m.x.own))
}

func (m *mover) marking(e layout.Env) bool {
	was := m.x.word()
	m.x.state = moving
	m.at = m.seeing
	if e.Cas(slotAt(e.C, m.x.slot), was, m.x.word()) {
		m.at = m.loading
	}
	return false
}

// loading passes over a cell that is frozen in that move, or in a later one.
func (m *mover) loading(e layout.Env) bool {
	m.held = e.Load(m.x.at(m.cell))
	m.at = m.freezing
	if frozenIn(m.held) >= m.x.ver {
		m.at = m.copying
	}
	return false
}

func (m *mover) freezing(e layout.Env) bool {
	m.at = m.loading
	if e.Cas(m.x.at(m.cell), m.held, frozen(uint64(valueOf(m.held)), m.x.ver)) {
		m.at = m.copying
	}
	return false
}

func (m *mover) copying(e layout.Env) bool {
	e.Store(m.copy.at(m.cell), uint64(valueOf(m.held)))
	m.cell++
	m.at = m.loading
	if m.cell == m.x.size {
		m.at = m.showing
	}
	return false
}

func (m *mover) showing(e layout.Env) bool {
	if e.Cas(slotAt(e.C, m.x.slot), m.x.word(), slotWord(live, m.copy.addr, m.x.gen, m.x.ver+1)) {
		m.moved = true
		m.at = func(e layout.Env) bool {
			m.layHead(e, ready)
			m.at = m.growing
			return false
		}
		return false
	}
	m.tries++
	m.at = m.seeing
	if m.tries == e.C.Tries {
		return m.givenUp()
	}
	return false
}

// growing and falling: how many words live, of the copy's chunk and of the other one.
func (m *mover) growing(e layout.Env) bool {
	e.Add(chunkAt(e.C, chunkOf(e.C, m.copy.addr))+1, rooms[classes[m.x.size]])
	m.at = m.falling
	return false
}

func (m *mover) falling(e layout.Env) bool {
	e.Add(chunkAt(e.C, chunkOf(e.C, m.x.addr))+1, -rooms[classes[m.x.size]])
	return true
}

// givenUp: a copy that is not used is dead at the end.
func (m *mover) givenUp() bool {
	m.at = func(e layout.Env) bool {
		m.layHead(e, dead)
		return true
	}
	return m.get == nil
}

// told is what one of several was told.
type told struct {
	made, gone   bool // an object was made, or let go; or else:
	want         api.Want
	own          bool
	size         int
	done         api.Done
	began, ended int
}

// seat is one of several: what it does, and, in the other memory, what the chapter tells of it.
type seat struct {
	one, two stepper
	end      func() told // nil, if nothing is told of it
	began    int
}

// crowd is several who work in one memory; what the chapter tells of them, in another one.
type crowd struct {
	t     *testing.T
	e     layout.Env
	twin  *mem.Mem
	seats []seat
	told  []told
	made  []thing // objects of which the handles were told
	moved int     // how often one was moved
}

func newCrowd(t *testing.T, c api.Config, seats int) *crowd {
	t.Helper()
	return &crowd{t: t, e: entered(t, c, 0), twin: entered(t, c, 0).M, seats: make([]seat, seats)}
}

// busy is whether somebody is on the way.
func (c *crowd) busy(who int) bool { return c.seats[who].one != nil }

// access lets somebody begin to read or lay a word.
func (c *crowd) access(who int, want api.Want, own bool) {
	a, d := access.New(want, own), newDoer(want, own)
	c.seats[who] = seat{one: a, two: d, began: c.e.Now(), end: func() told {
		wantDone(c.t, a, d.told)
		return told{want: want, own: own, done: a.Done()}
	}}
}

// alloc lets somebody begin to make an object.
func (c *crowd) alloc(who, size int, own bool) {
	a := alloc.New(size, own)
	c.seats[who] = seat{one: a, two: alloc.New(size, own), began: c.e.Now(), end: func() told {
		d := a.Done()
		if d.E == api.OK {
			c.made = append(c.made, thing{slot: int(d.Handle & (1<<16 - 1)), gen: int(d.Handle >> 16), size: size, own: own})
		}
		return told{made: true, want: api.Want{Handle: d.Handle}, own: own, size: size, done: d}
	}}
}

// drop lets somebody begin to let an object go.
func (c *crowd) drop(who int, x thing) {
	d := drop.New(x.number(), x.own)
	c.seats[who] = seat{one: d, two: drop.New(x.number(), x.own), began: c.e.Now(), end: func() told {
		return told{gone: true, want: api.Want{Handle: x.number()}, own: x.own, done: d.Done()}
	}}
}

// move lets somebody begin to move an object.
func (c *crowd) move(who int, x thing) {
	c.seats[who] = seat{one: newMover(x.slot, x.gen), two: newMover(x.slot, x.gen)}
}

// make makes an object, by somebody who is picked alone.
func (c *crowd) make(who, size int, own bool) thing {
	c.t.Helper()
	c.alloc(who, size, own)
	if d := c.run(who); d.E != api.OK {
		c.t.Fatal(d)
	}
	return c.made[len(c.made)-1]
}

// pick lets the one that is picked do a step, and asks that it is the one that the chapter tells.
func (c *crowd) pick(who int) {
	c.t.Helper()
	s := &c.seats[who]
	c.e.Who = who
	at := c.e.Now()
	done, want := s.one.Step(c.e), s.two.Step(layout.Env{C: c.e.C, M: c.twin, Who: who})
	if done != want || c.e.Now() != at+1 || c.e.Now() != c.twin.Steps() || c.e.M.Last() != c.twin.Last() {
		c.t.Fatalf("by %d: %v, step %d, %v, not %v, step %d, %v", who, done, c.e.Now(), c.e.M.Last(), want, c.twin.Steps(), c.twin.Last())
	}
	c.wantTouched(s)
	if a, is := s.one.(*access.Access); is && !done {
		wantDone(c.t, a, api.Done{})
	}
	if m, is := s.one.(*mover); is && done && m.moved {
		c.moved++
	}
	if done {
		if s.end != nil {
			x := s.end()
			x.began, x.ended = s.began, c.e.Now()
			c.told = append(c.told, x)
		}
		*s = seat{}
	}
}

// wantTouched asks that the word that was touched is what it must be, that it was given out, and that who reads or lays changes nothing but what it may. All words were the same ahead of it, so that just that one can be another one.
func (c *crowd) wantTouched(s *seat) {
	c.t.Helper()
	last := c.e.M.Last()
	w := c.e.M.Peek(last.Addr)
	if w != c.twin.Peek(last.Addr) {
		c.t.Fatalf("word %d is %#x, not %#x", last.Addr, w, c.twin.Peek(last.Addr))
	}
	if last.Addr >= baseAt(c.e.C, 0) {
		i := chunkOf(c.e.C, last.Addr)
		// State in 2 bits, Class in 6, Used in 20.
		if k := c.e.M.Peek(chunkAt(c.e.C, i)); k&3 != 1 || last.Addr-baseAt(c.e.C, i) >= int(k>>8&(1<<20-1)) {
			c.t.Fatalf("word %d of chunk %d was not given out", last.Addr, i)
		}
	}
	d, is := s.two.(*doer)
	if !is || !last.Changed {
		return
	}
	switch {
	case d.want.Kind == reading:
		c.t.Fatalf("who reads changed word %d", last.Addr)
	case last.Addr == slotAt(c.e.C, d.x.slot):
		if d.x.state != moving && d.x.state != dropping {
			c.t.Fatalf("the slot's word is %#x", w)
		}
	case last.Addr < d.x.at(0) || last.Addr >= d.x.at(d.x.size):
		c.t.Fatalf("word %d is changed by one who lays one of an object at %d", last.Addr, d.x.addr)
	case d.x.state != dropping && last.Addr != d.x.at(d.want.Index):
		c.t.Fatalf("word %d is changed, not %d", last.Addr, d.x.at(d.want.Index))
	}
}

// run lets somebody work on till it is done: what it was told.
func (c *crowd) run(who int) api.Done {
	c.t.Helper()
	// To stop a move, or to help, comes once at most; then all begins anew.
	for most := 100 + 3*c.e.C.Chunks; c.busy(who); most-- {
		if most < 0 {
			c.t.Fatalf("%d is not done", who)
		}
		c.pick(who)
	}
	if len(c.told) == 0 {
		return api.Done{}
	}
	return c.told[len(c.told)-1].done
}

// rest lets all end what they do, and asks that all is as it must be.
func (c *crowd) rest() {
	c.t.Helper()
	for who := range c.seats {
		if c.busy(who) {
			c.run(who)
		}
	}
	if !slices.Equal(words(c.e.M), words(c.twin)) {
		c.t.Fatalf("the words are %v, not %v", words(c.e.M), words(c.twin))
	}
	c.wantLinear()
}

// plain is an object as a plain store has it.
type plain struct {
	words []int
	own   bool
}

// wantLinear asks that what was told is what a plain store tells, each done at once at its step, while it was under way; and that what that store has at the end is there.
func (c *crowd) wantLinear() {
	c.t.Helper()
	l := slices.Clone(c.told)
	slices.SortStableFunc(l, func(a, b told) int { return cmp.Compare(a.done.Stamp, b.done.Stamp) })
	store := map[uint64]plain{}
	for _, x := range l {
		if x.done.Stamp < x.began || x.done.Stamp > x.ended {
			c.t.Fatalf("%v took effect while it was not under way", x)
		}
		x.done.Stamp = 0
		if x.made && x.done.E != api.OK {
			continue
		}
		if want := store1(store, x); x.done != want {
			c.t.Fatalf("%v was told, and not %v, of all of these: %v", x, want, l)
		}
	}
	for number, o := range store {
		x := found(c.e, number)
		if x.state != live || x.gen != int(number>>16) || x.size != len(o.words) || x.own != o.own {
			c.t.Fatalf("%#x is %v", number, x)
		}
		for k, v := range o.words {
			if is := valueOf(c.e.M.Peek(x.at(k))); is != v {
				c.t.Fatalf("word %d of %#x is %d, not %d", k, number, is, v)
			}
		}
	}
}

// store1 does one thing at once in a plain store: what it must be told.
func store1(store map[uint64]plain, x told) api.Done {
	o, is := store[x.want.Handle]
	if x.made {
		if is {
			return api.Done{E: api.ErrHandles}
		}
		store[x.want.Handle] = plain{make([]int, x.size), x.own}
		return api.Done{Handle: x.want.Handle}
	}
	if !is || o.own != x.own {
		return api.Done{E: api.ErrInvalid}
	}
	if x.gone {
		delete(store, x.want.Handle)
		return api.Done{}
	}
	k := x.want.Index
	if k < 0 || k >= len(o.words) {
		return api.Done{E: api.ErrIndex}
	}
	was := o.words[k]
	if x.want.Kind == exchanging && was != x.want.Old {
		return api.Done{E: api.ErrOther, Value: was}
	}
	if x.want.Kind != reading {
		o.words[k] = x.want.Value
	}
	return api.Done{Value: was}
}

// play lets those be picked whom a number tells, of so many.
func (c *crowd) play(order, length int) {
	c.t.Helper()
	for range length {
		if who := order % len(c.seats); c.busy(who) {
			c.pick(who)
		}
		order /= len(c.seats)
	}
}
