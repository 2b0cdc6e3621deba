package move_test

import (
	"cmp"
	"iter"
	"slices"
	"testing"

	"footlocker/access"
	"footlocker/alloc"
	"footlocker/api"
	"footlocker/drop"
	"footlocker/layout"
	"footlocker/mem"
	"footlocker/move"
	"footlocker/place"
)

// teller is somebody who moves an object as the chapter's words tell it, one behind the other, in a memory of its own. It stays where it is ahead of each step, till it is picked.
type teller struct {
	next  func() (struct{}, bool)
	stop  func()
	e     layout.Env // of the step that is done
	rest  func(struct{}) bool
	first bool
	x     thing
	get   *place.Place
	spot  api.Spot
	is    bool
	out   int
}

func newTeller(x thing) *teller {
	p := &teller{x: x, first: true}
	p.next, p.stop = iter.Pull(func(yield func(struct{}) bool) {
		defer func() {
			if r := recover(); r != nil && r != (left{}) {
				panic(r)
			}
		}()
		p.rest = yield
		p.out = p.move()
	})
	return p
}

// left is why one ends whom nobody picks any more.
type left struct{}

// Step does a step, and goes on up to the next one.
func (p *teller) Step(e layout.Env) bool {
	p.e = e
	_, on := p.next()
	return !on
}

// wait stays there till it is picked again.
func (p *teller) wait() layout.Env {
	if !p.first && !p.rest(struct{}{}) {
		panic(left{})
	}
	p.first = false
	return p.e
}

func (p *teller) load(a int) uint64 { return p.wait().Load(a) }

func (p *teller) store(a int, w uint64) { p.wait().Store(a, w) }

func (p *teller) cas(a int, old, w uint64) bool { return p.wait().Cas(a, old, w) }

func (p *teller) add(a, d int) { p.wait().Add(a, d) }

// slot, live: where the slot's word stands, and how many words of a chunk live.
func (p *teller) slot() int          { return slotAt(p.e.C, p.x.slot) }
func (p *teller) live(addr int) int  { return chunkAt(p.e.C, chunkOf(p.e.C, addr)) + 1 }
func (p *teller) layHead(kind int)   { p.store(p.spot.Addr, p.x.headWord(kind)) }
func (p *teller) buried(out int) int { p.layHead(dead); return out }
func (p *teller) end(out int) int {
	if p.is {
		return p.buried(out)
	}
	return out
}

// move is what it comes to.
func (p *teller) move() int {
	for ended := 0; ; {
		w := p.load(p.slot())
		here := genOf(w) == p.x.gen && addrOf(w) == p.x.addr
		if here && stateOf(w) == dropping {
			return p.end(api.MoveKept)
		}
		if !here || stateOf(w) != live {
			return p.end(api.MoveDead)
		}
		if verOf(w) >= api.MostVer-1 {
			return p.end(api.MoveKept)
		}
		p.x.ver = verOf(w)
		if !p.placed() {
			return api.MoveRoom
		}
		p.layHead(pending)
		if !p.cas(p.slot(), w, p.x.in(moving, p.x.ver)) {
			continue
		}
		for k := range p.x.size {
			p.store(p.spot.Addr+1+k, uint64(p.froze(p.x.at(k))))
		}
		y := p.x
		y.addr = p.spot.Addr
		if p.cas(p.slot(), p.x.in(moving, p.x.ver), y.in(live, p.x.ver+1)) {
			p.layHead(ready)
			p.add(p.live(y.addr), p.x.room())
			p.add(p.live(p.x.addr), -p.x.room())
			return api.MoveDone
		}
		if ended++; ended == p.e.C.Tries {
			return p.buried(api.MoveKept)
		}
	}
}

// placed gets words, the first time: whether there are any.
func (p *teller) placed() bool {
	if p.is {
		return true
	}
	p.get = place.New(classes[p.x.size])
	for !p.get.Step(p.wait()) {
	}
	p.spot, p.is = p.get.Spot()
	return p.is
}

// froze freezes a cell, if it is not frozen in that version, or in a greater one: its value.
func (p *teller) froze(at int) int {
	for {
		w := p.load(at)
		if frozenIn(w) >= p.x.ver || p.cas(at, w, frozen(valueOf(w), p.x.ver)) {
			return valueOf(w)
		}
	}
}

// told is what one of several was told.
type told struct {
	made, gone   bool // an object was made, or let go; or else:
	want         api.Want
	own          bool
	size         int
	done         api.Done
	began, ended int
}

// seat is one of several: what it does, and, in the other memory, what it must do.
type seat struct {
	one, two stepper
	end      func() told // nil, if nothing is told of it
	began    int
}

// crowd is several who work in one memory; what the chapters tell of them, in another one.
type crowd struct {
	t     *testing.T
	e     layout.Env
	twin  *mem.Mem
	seats []seat
	told  []told
	made  []thing // objects of which the handles were told, where they stood then
	outs  [5]int  // how often moves came to each thing
	over  []thing // copies that are not used, where they stand
	gone  []*teller
}

func newCrowd(t *testing.T, c api.Config, seats int) *crowd {
	t.Helper()
	return &crowd{t: t, e: entered(t, c, 0), twin: entered(t, c, 0).M, seats: make([]seat, seats)}
}

// busy is whether somebody is on the way.
func (c *crowd) busy(who int) bool { return c.seats[who].one != nil }

// access lets somebody begin to read or lay a word.
func (c *crowd) access(who int, want api.Want, own bool) {
	a := access.New(want, own)
	c.seats[who] = seat{one: a, two: access.New(want, own), began: c.e.Now(), end: func() told {
		return told{want: want, own: own, done: a.Done()}
	}}
}

// alloc lets somebody begin to make an object.
func (c *crowd) alloc(who, size int, own bool) {
	a := alloc.New(size, own)
	c.seats[who] = seat{one: a, two: alloc.New(size, own), began: c.e.Now(), end: func() told {
		d := a.Done()
		if d.E == api.OK {
			x := thing{slot: int(d.Handle & (1<<16 - 1)), gen: int(d.Handle >> 16), size: size, own: own}
			x.addr = addrOf(c.e.M.Peek(slotAt(c.e.C, x.slot)))
			c.made = append(c.made, x)
		}
		return told{made: true, want: api.Want{Handle: d.Handle}, own: own, size: size, done: d}
	}}
}

// drop lets somebody begin to let an object go.
func (c *crowd) drop(who int, x thing) {
	d := drop.New(x.number(), x.own)
	c.seats[who] = seat{one: d, two: drop.New(x.number(), x.own), began: c.e.Now(), end: func() told {
		return told{gone: true, want: api.Want{Handle: x.number()}, own: x.own, done: d.Done()}
	}}
}

// move lets somebody begin to move an object from where it stands, or stood when it was made.
func (c *crowd) move(who int, x thing) {
	if w := c.e.M.Peek(slotAt(c.e.C, x.slot)); lives(w) && genOf(w) == x.gen {
		x.addr = addrOf(w)
	}
	c.moveFrom(who, x)
}

// moveFrom lets somebody begin to move an object from there.
func (c *crowd) moveFrom(who int, x thing) {
	p := newTeller(x)
	c.gone = append(c.gone, p)
	c.seats[who] = seat{one: move.New(x.addr, x.head()), two: p}
}

// make makes an object, by somebody who is picked alone.
func (c *crowd) make(who, size int, own bool) thing {
	c.t.Helper()
	c.alloc(who, size, own)
	if d := c.run(who); d.E != api.OK {
		c.t.Fatal(d)
	}
	return c.made[len(c.made)-1]
}

// pick lets the one that is picked do a step, and asks that it is the one that the chapter tells.
func (c *crowd) pick(who int) {
	c.t.Helper()
	s := &c.seats[who]
	c.e.Who = who
	at := c.e.Now()
	done, want := s.one.Step(c.e), s.two.Step(layout.Env{C: c.e.C, M: c.twin, Who: who})
	last := c.e.M.Last()
	if done != want || c.e.Now() != at+1 || c.e.Now() != c.twin.Steps() || last != c.twin.Last() || last.Who != who {
		c.t.Fatalf("by %d: %v, step %d, %v, not %v, step %d, %v", who, done, c.e.Now(), last, want, c.twin.Steps(), c.twin.Last())
	}
	// All words were the same ahead of it, so that just the one that was touched can be another one.
	if w := c.e.M.Peek(last.Addr); w != c.twin.Peek(last.Addr) {
		c.t.Fatalf("word %d is %#x, not %#x", last.Addr, w, c.twin.Peek(last.Addr))
	}
	c.wantGiven(last.Addr)
	if m, is := s.one.(*move.Move); is {
		c.wantTold(m, s.two.(*teller), done)
	}
	if done {
		if s.end != nil {
			x := s.end()
			x.began, x.ended = s.began, c.e.Now()
			c.told = append(c.told, x)
		}
		*s = seat{}
	}
}

// wantGiven asks that a word that was touched was given out, if it is one of a chunk's.
func (c *crowd) wantGiven(addr int) {
	c.t.Helper()
	if addr < baseAt(c.e.C, 0) {
		return
	}
	i := chunkOf(c.e.C, addr)
	k := c.e.M.Peek(chunkAt(c.e.C, i))
	if kindOf(k) != open && kindOf(k) != evac || addr-baseAt(c.e.C, i) >= usedOf(k) {
		c.t.Fatalf("word %d of chunk %d was not given out", addr, i)
	}
}

// wantTold asks that one who moves tells what it must, and changed nothing but what it may: no word of another object.
func (c *crowd) wantTold(m *move.Move, p *teller, done bool) {
	c.t.Helper()
	out := 0
	if done {
		out = p.out
		c.outs[out]++
	}
	// The teller goes on up to its next step: it knows where the copy is when the words are got, as the other one does.
	spot, is := m.Spot()
	if m.Out() != out || spot != p.spot || is != p.is {
		c.t.Fatalf("it came to %d, its copy is at %v, %v, not %d, %v, %v", m.Out(), spot, is, out, p.spot, p.is)
	}
	if h := c.e.M.Peek(spot.Addr); done && is {
		kind := dead
		if out == api.MoveDone {
			kind = ready
		}
		if h != p.x.headWord(kind) {
			c.t.Fatalf("it came to %d, and the copy's head is %#x", out, h)
		}
		if kind == dead {
			c.over = append(c.over, thing{addr: spot.Addr, size: p.x.size})
		}
	}
	last := c.e.M.Last()
	if !last.Changed || last.Addr < baseAt(c.e.C, 0) {
		return
	}
	mine := is && last.Addr >= spot.Addr && last.Addr < spot.Addr+p.x.room()
	if !mine && (last.Addr < p.x.at(0) || last.Addr >= p.x.at(p.x.size)) {
		c.t.Fatalf("word %d is changed by one who moves an object at %d to %v", last.Addr, p.x.addr, spot)
	}
	for s := range c.e.C.Slots {
		w := c.e.M.Peek(slotAt(c.e.C, s))
		if !lives(w) || s == p.x.slot && genOf(w) == p.x.gen {
			continue
		}
		if y := found(c.e, handle(s, genOf(w))); last.Addr >= y.addr && last.Addr < y.addr+y.room() {
			c.t.Fatalf("word %d is changed, which is one of %v", last.Addr, y)
		}
	}
}

// run lets somebody work on till it is done: what was told last.
func (c *crowd) run(who int) api.Done {
	c.t.Helper()
	for most := 200 + 3*c.e.C.Chunks; c.busy(who); most-- {
		if most < 0 {
			c.t.Fatalf("%d is not done", who)
		}
		c.pick(who)
	}
	if len(c.told) == 0 {
		return api.Done{}
	}
	return c.told[len(c.told)-1].done
}

// rest lets all end what they do, and asks that all is as it must be.
func (c *crowd) rest() {
	c.t.Helper()
	for who := range c.seats {
		if c.busy(who) {
			c.run(who)
		}
	}
	wantLiving(c.t, c.e)
	c.leave()
}

// leave asks that all is as it must be, though some may be on the way: nobody picks them any more.
func (c *crowd) leave() {
	c.t.Helper()
	if !slices.Equal(words(c.e.M), words(c.twin)) {
		c.t.Fatalf("the words are %v, not %v", words(c.e.M), words(c.twin))
	}
	c.wantLinear()
	for _, y := range c.over {
		if h := c.e.M.Peek(y.addr); h&3 != dead {
			c.t.Fatalf("the copy at %d has the head %#x", y.addr, h)
		}
	}
	for _, p := range c.gone {
		p.stop()
	}
}

// plain is an object as a plain store has it.
type plain struct {
	words []int
	own   bool
}

// wantLinear asks that what was told is what a plain store tells, each done at once at its step, while it was under way; and that what that store has at the end is there. Those who are still on the way may have done theirs: then it asks for less.
func (c *crowd) wantLinear() {
	c.t.Helper()
	l := slices.Clone(c.told)
	slices.SortStableFunc(l, func(a, b told) int { return cmp.Compare(a.done.Stamp, b.done.Stamp) })
	store := map[uint64]plain{}
	for _, x := range l {
		if x.done.Stamp < x.began || x.done.Stamp > x.ended {
			c.t.Fatalf("%v took effect while it was not under way", x)
		}
		x.done.Stamp = 0
		if x.made && x.done.E != api.OK {
			continue
		}
		if want := store1(store, x); x.done != want {
			c.t.Fatalf("%v was told, and not %v, of all of these: %v", x, want, l)
		}
	}
	for number, o := range store {
		x := found(c.e, number)
		if x.state != live && x.state != moving || x.gen != int(number>>16) || x.size != len(o.words) || x.own != o.own {
			c.t.Fatalf("%#x is %v", number, x)
		}
		for k, v := range o.words {
			if is := valueOf(c.e.M.Peek(x.at(k))); is != v {
				c.t.Fatalf("word %d of %#x is %d, not %d", k, number, is, v)
			}
		}
	}
}

// store1 does one thing at once in a plain store: what it must be told.
func store1(store map[uint64]plain, x told) api.Done {
	o, is := store[x.want.Handle]
	if x.made {
		if is {
			return api.Done{E: api.ErrHandles}
		}
		store[x.want.Handle] = plain{make([]int, x.size), x.own}
		return api.Done{Handle: x.want.Handle}
	}
	if !is || o.own != x.own {
		return api.Done{E: api.ErrInvalid}
	}
	if x.gone {
		delete(store, x.want.Handle)
		return api.Done{}
	}
	k := x.want.Index
	if k < 0 || k >= len(o.words) {
		return api.Done{E: api.ErrIndex}
	}
	was := o.words[k]
	if x.want.Kind == api.DoCas && was != x.want.Old {
		return api.Done{E: api.ErrOther, Value: was}
	}
	if x.want.Kind != api.DoRead {
		o.words[k] = x.want.Value
	}
	return api.Done{Value: was}
}

// play lets those be picked whom a number tells, of so many.
func (c *crowd) play(order, length int) {
	c.t.Helper()
	for range length {
		if who := order % len(c.seats); c.busy(who) {
			c.pick(who)
		}
		order /= len(c.seats)
	}
}
