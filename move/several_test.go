package move_test

import (
	"testing"

	"footlocker/api"
	"footlocker/move"
)

// mixed is a number below n, and the next state of what it is mixed from.
func mixed(x uint64, n int) (int, uint64) {
	x = x*6364136223846793005 + 1442695040888963407
	return int(x >> 33 % uint64(n)), x
}

// asked is something that somebody begins to do to an object.
type asked func(c *crowd, who int, x thing)

// reads, writes, exchanges, goes and moves are such things; a value that is laid tells who did it.
func reads(c *crowd, who int, x thing)     { c.access(who, x.read(0), x.own) }
func writes(c *crowd, who int, x thing)    { c.access(who, x.write(0, 10+who), x.own) }
func exchanges(c *crowd, who int, x thing) { c.access(who, x.exchange(0, 5, 20+who), x.own) }
func goes(c *crowd, who int, x thing)      { c.drop(who, x) }
func moves(c *crowd, who int, x thing)     { c.move(who, x) }

// lays and looks do so to the last word.
func lays(c *crowd, who int, x thing)  { c.access(who, x.write(x.size-1, 30+who), x.own) }
func looks(c *crowd, who int, x thing) { c.access(who, x.read(x.size-1), x.own) }

// follows exchanges what the first seat writes; others what is never there.
func follows(c *crowd, who int, x thing) { c.access(who, x.exchange(0, 10, 40+who), x.own) }
func others(c *crowd, who int, x thing)  { c.access(who, x.exchange(0, 99, 50+who), x.own) }

// eachOrder plays those who do these things to an object of a size, of which each word is 5 at first, and who are picked in each order of so many picks, behind so many steps of the last one.
func eachOrder(t *testing.T, size, tries, ahead, length int, l ...asked) {
	t.Helper()
	orders := 1
	for range length {
		orders *= len(l)
	}
	for order := range orders {
		a := arena(2, 3, 17)
		a.Tries = tries
		c := newCrowd(t, a, len(l))
		x := c.make(0, size, order%2 == 0)
		for k := range size {
			c.access(0, x.write(k, 5), x.own)
			c.run(0)
		}
		for who, do := range l {
			do(c, who, x)
		}
		for range ahead {
			if c.busy(len(l) - 1) {
				c.pick(len(l) - 1)
			}
		}
		c.play(order, length)
		c.rest()
	}
}

func TestOneWhileItIsMovedInEachOrder(t *testing.T) {
	t.Parallel()
	// From each step of the move on.
	for _, one := range []asked{reads, writes, exchanges, others, lays, looks, goes} {
		for ahead := range 17 {
			for tries := 1; tries <= 2; tries++ {
				eachOrder(t, 1, tries, ahead, 8, one, moves)
				eachOrder(t, 2, tries, ahead, 8, one, moves)
			}
		}
	}
}

func TestTwoWhileItIsMovedInEachOrder(t *testing.T) {
	t.Parallel()
	for _, one := range []asked{reads, writes, goes} {
		for _, two := range []asked{writes, exchanges, follows, lays} {
			for ahead := range 12 {
				eachOrder(t, 2, 1+ahead%3, 4+ahead, 6, one, two, moves)
			}
		}
	}
}

func TestTwoWhoMoveInEachOrder(t *testing.T) {
	t.Parallel()
	// The same object: it is moved once, or once more from where it then stands, or kept.
	for ahead := range 14 {
		eachOrder(t, 1, 2, ahead, 10, moves, moves)
		eachOrder(t, 2, 1, ahead, 6, writes, moves, moves)
		eachOrder(t, 1, 2, ahead, 6, goes, moves, moves)
	}
}

func TestManyWhoMoveAndStopInEachOrder(t *testing.T) {
	t.Parallel()
	// Behind more picks, of which not all orders are played.
	for _, l := range [][]asked{{moves, writes, moves, lays}, {moves, writes, goes, lays}, {moves, moves, writes, goes}, {moves, writes, lays, exchanges}} {
		for seed := range uint64(3000) {
			a := arena(2, 4, 40)
			a.Tries = 1 + int(seed%4)
			c := newCrowd(t, a, len(l))
			x := c.make(0, 1+int(seed%3), false)
			c.access(0, x.write(0, 5), false)
			c.run(0)
			for who, do := range l {
				do(c, who, x)
			}
			var who int
			n := seed
			for range 60 {
				if who, n = mixed(n, len(l)); c.busy(who) {
					c.pick(who)
				}
			}
			c.rest()
		}
	}
}

// picked lets somebody do so many steps.
func (c *crowd) picked(who, steps int) {
	c.t.Helper()
	for range steps {
		if c.busy(who) {
			c.pick(who)
		}
	}
}

// read is what one who is picked alone reads.
func (c *crowd) read(who int, x thing, k int) api.Done {
	c.t.Helper()
	c.access(who, x.read(k), x.own)
	return c.run(who)
}

func TestALaggardFreezesNothingInALesserVersion(t *testing.T) {
	// Its move was stopped, and the object let go: what it does by then lets nobody lay a word of that.
	for size := 2; size <= 5; size++ {
		for lag := range 3*size + 9 {
			for ahead := 1; ahead <= 3; ahead++ {
				c := newCrowd(t, arena(2, 3, 40), 4)
				x := c.make(0, size, false)
				c.move(3, x)
				c.picked(3, lag)
				c.access(0, x.write(0, 7), false)
				c.run(0)
				c.access(1, x.write(size-1, 8), false)
				c.picked(1, ahead)
				c.drop(2, x)
				if d := c.run(2); d.E != api.OK {
					t.Fatal(d)
				}
				if c.busy(3) {
					c.run(3)
				}
				if d := c.run(1); d.E != api.ErrInvalid {
					t.Fatal(d)
				}
				c.rest()
			}
		}
	}
}

func TestALaggardWhateverBecameOfTheObject(t *testing.T) {
	// From each of its steps on: the move is stopped, the object let go, its slot has another object, once or twice, which is moved, too. No word of another object is changed.
	for _, size := range []int{1, 2, 4, 7} {
		for lag := range 3*size + 16 {
			for what := range 6 {
				c := newCrowd(t, arena(1, 9, 40), 3)
				x := c.make(0, size, false)
				for k := range size {
					c.access(0, x.write(k, 100+k), false)
					c.run(0)
				}
				c.move(2, x)
				c.picked(2, lag)
				l := []func(){
					func() { c.access(0, x.write(0, 7), false) },
					func() { c.drop(0, x) },
					func() { x = c.make(0, size, false) },
					func() { c.access(0, x.write(size-1, 8), false) },
					func() { c.move(0, x) },
					func() { c.drop(0, x) },
					func() { x = c.make(0, 16, true) },
					func() { c.move(1, x); c.run(1) },
				}
				for _, do := range l[:what+3] {
					do()
					c.run(0)
				}
				if c.busy(2) {
					c.run(2)
				}
				c.rest()
			}
		}
	}
}

func TestNoneIsLost(t *testing.T) {
	// Each adds 1, by an exchange of what it read, as often as it must till it is told that it did, while the object is moved on and on.
	all := [5]int{}
	for seed := range uint64(80) {
		const seats, each = 4, 6
		a := arena(2, 60, 100)
		a.Tries = 1 + int(seed%5)
		c := newCrowd(t, a, seats+1)
		o := c.make(0, 1+int(seed%4), seed%2 == 0)
		var is, added [seats]int
		var busy [seats]bool // with an exchange
		x := seed
		var who int
		for sum := 0; sum < seats*each; {
			who, x = mixed(x, seats+3)
			if who >= seats {
				who = seats
				if !c.busy(who) {
					c.move(who, o)
				}
				c.pick(who)
				continue
			}
			if added[who] == each {
				continue
			}
			if !c.busy(who) {
				if busy[who] {
					c.access(who, o.exchange(0, is[who], is[who]+1), o.own)
				} else {
					c.access(who, o.read(0), o.own)
				}
			}
			c.pick(who)
			if c.busy(who) {
				continue
			}
			d := c.told[len(c.told)-1].done
			if busy[who] && d.E == api.OK {
				added[who]++
				sum++
			}
			is[who] = d.Value
			busy[who] = !busy[who] || d.E == api.ErrOther
		}
		c.rest()
		if d := c.read(0, o, 0); d.Value != seats*each {
			t.Fatalf("it is %d", d.Value)
		}
		for i, n := range c.outs {
			all[i] += n
		}
	}
	if all[api.MoveDone] < 100 || all[api.MoveKept] < 20 || all[api.MoveDead] > 0 {
		t.Errorf("moves came to %v", all)
	}
}

// begin lets somebody begin something, most often to a few words of the objects that were made last; the last two move objects.
func (c *crowd) begin(who int, x uint64) uint64 {
	var what, which, k, v, size int
	what, x = mixed(x, 20)
	which, x = mixed(x, 4)
	size, x = mixed(x, api.MostSize)
	k, x = mixed(x, 3)
	v, x = mixed(x, 3)
	if len(c.made) == 0 {
		c.alloc(who, 1+size, x>>40&1 == 0)
		return x
	}
	o := c.made[max(0, len(c.made)-1-which)]
	switch {
	case who >= len(c.seats)-2 && what < 3:
		// From where it stands no more.
		c.moveFrom(who, o)
	case who >= len(c.seats)-2:
		c.move(who, o)
	case what == 0:
		c.alloc(who, 1+size, x>>40&1 == 0)
	case what == 1:
		c.drop(who, o)
	case what < 8:
		c.access(who, o.read(k), o.own)
	case what < 14:
		c.access(who, o.write(k, v), o.own)
	default:
		c.access(who, o.exchange(k, v, (v+1)%3), o.own)
	}
	return x
}

func TestManyWhoeverIsPicked(t *testing.T) {
	t.Parallel()
	all := [5]int{}
	for seed := range uint64(200) {
		seats := 3 + int(seed%6)
		a := arena(1+int(seed*5%9), 2+int(seed%30), 40+int(seed*7%200))
		a.Gens = 1 + int(seed%13)
		a.Tries = 1 + int(seed%4)
		c := newCrowd(t, a, seats)
		x := seed
		var who int
		for range 1500 {
			if who, x = mixed(x, seats); !c.busy(who) {
				x = c.begin(who, x)
			}
			c.pick(who)
		}
		c.rest()
		for i, n := range c.outs {
			all[i] += n
		}
	}
	for out := api.MoveDone; out <= api.MoveRoom; out++ {
		if all[out] < 100 {
			t.Errorf("moves came to %d %d times", out, all[out])
		}
	}
}

func TestOneThatIsNeverPickedAgainStopsNobody(t *testing.T) {
	// Wherever that is; others read, lay, exchange, make, move and let go: all of them end.
	for size := 1; size <= 7; size += 2 {
		for half := range 3*size + 16 {
			c := newCrowd(t, arena(6, 9, 60), 5)
			o := c.make(0, size, false)
			moves(c, 4, o)
			c.picked(4, half)
			for who, other := range []asked{reads, writes, follows, lays} {
				other(c, who, o)
				if d := c.run(who); d.E != api.OK && d.E != api.ErrOther {
					t.Fatalf("behind %d steps of another one: %v", half, d)
				}
			}
			if d := c.read(1, o, size-1); d.E != api.OK || d.Value != 33 {
				t.Fatalf("behind %d steps of another one: %v", half, d)
			}
			c.move(0, o)
			c.run(0)
			if d := c.read(1, o, size-1); d.E != api.OK || d.Value != 33 {
				t.Fatalf("behind %d steps of another one: %v", half, d)
			}
			p := c.make(3, size, true)
			c.move(0, p)
			c.run(0)
			if at := found(c.e, p.number()); at.addr == p.addr || at.ver != 1 {
				t.Fatalf("behind %d steps of another one: %v", half, at)
			}
			goes(c, 2, o)
			if d := c.run(2); d.E != api.OK {
				t.Fatalf("behind %d steps of another one: %v", half, d)
			}
			if d := c.read(1, o, 0); d.E != api.ErrInvalid {
				t.Fatalf("behind %d steps of another one: %v", half, d)
			}
			c.leave()
		}
	}
}

func TestOneThatLetsGoAndIsNeverPickedAgainStopsNoMove(t *testing.T) {
	// The move ends; with the object as one that is kept, till another one helps to let it go.
	for half := range 12 {
		for ahead := range 16 {
			c := newCrowd(t, arena(2, 3, 40), 3)
			o := c.make(0, 2, false)
			moves(c, 1, o)
			c.picked(1, ahead)
			goes(c, 2, o)
			c.picked(2, half)
			if c.busy(1) {
				c.run(1)
			}
			writes(c, 0, o)
			c.run(0)
			c.rest()
		}
	}
}

func TestSomeoneEndsWhoeverIsPicked(t *testing.T) {
	t.Parallel()
	// It is in vain only if another one laid the word, moved the object, or let it go.
	for seed := range uint64(30) {
		const seats = 5
		a := arena(6, 60, 250)
		a.Gens = api.MostGen
		c := newCrowd(t, a, seats)
		x := seed
		var who int
		for range 40 {
			was := len(c.told)
			for range seats * 120 {
				if who, x = mixed(x, seats); !c.busy(who) {
					x = c.begin(who, x)
				}
				c.pick(who)
			}
			if len(c.told) == was {
				t.Fatal("nobody ended")
			}
		}
		c.rest()
	}
}

func TestAMoveEndsThoughItIsStoppedOnAndOn(t *testing.T) {
	// Whoever writes does so at the worst moment each time: behind as many tries as there are, the object is kept, with what was laid last.
	for tries := 1; tries <= 16; tries++ {
		a := arena(1, 3, 40)
		a.Tries = tries
		c := newCrowd(t, a, 2)
		o := c.make(0, 3, false)
		moves(c, 1, o)
		m := c.seats[1].one.(*move.Move)
		n := 0
		for c.busy(1) {
			w := c.e.M.Peek(slotAt(a, 0))
			if stateOf(w) == moving && frozenIn(c.e.M.Peek(found(c.e, o.number()).at(2))) == verOf(w) {
				c.access(0, o.write(2, 100+n), false)
				c.run(0)
				n++
			}
			c.pick(1)
		}
		if m.Out() != api.MoveKept || n != tries {
			t.Errorf("%d tries: it came to %d, behind %d writes", tries, m.Out(), n)
		}
		if d := c.read(0, o, 2); d.Value != 99+n {
			t.Error(d)
		}
		c.rest()
	}
}
