package access_test

import (
	"testing"

	"footlocker/api"
)

// asked is something that somebody begins to do to an object.
type asked func(c *crowd, who int, x thing)

// reads, writes, exchanges, goes and moves are such things; a value that is laid tells who did it.
func reads(c *crowd, who int, x thing)     { c.access(who, x.read(0), x.own) }
func writes(c *crowd, who int, x thing)    { c.access(who, x.write(0, 10+who), x.own) }
func exchanges(c *crowd, who int, x thing) { c.access(who, x.exchange(0, 5, 20+who), x.own) }
func goes(c *crowd, who int, x thing)      { c.drop(who, x) }
func moves(c *crowd, who int, x thing)     { c.move(who, x) }

// follows exchanges what the first seat writes.
func follows(c *crowd, who int, x thing) { c.access(who, x.exchange(0, 10, 30+who), x.own) }

// others exchanges what is never there.
func others(c *crowd, who int, x thing) { c.access(who, x.exchange(0, 99, 40+who), x.own) }

// eachOrder plays those who do these things to the same word, 5 at first, of an object of a size, and are picked in each order of so many picks, behind so many steps of the last one.
func eachOrder(t *testing.T, size, ahead, length int, l ...asked) {
	t.Helper()
	orders := 1
	for range length {
		orders *= len(l)
	}
	for order := range orders {
		c := newCrowd(t, arena(2, 3, 17), len(l))
		x := c.make(0, size, order%2 == 0)
		c.access(0, x.write(0, 5), x.own)
		c.run(0)
		for who, do := range l {
			do(c, who, x)
		}
		for range ahead {
			if c.busy(len(l) - 1) {
				c.pick(len(l) - 1)
			}
		}
		c.play(order, length)
		c.rest()
	}
}

func TestTwoInEachOrder(t *testing.T) {
	l := []asked{reads, writes, exchanges, follows, others}
	for _, one := range l {
		for _, two := range l {
			eachOrder(t, 1, 0, 9, one, two)
		}
	}
}

func TestThreeInEachOrder(t *testing.T) {
	l := []asked{reads, writes, exchanges, follows}
	for i, one := range l {
		for _, two := range l[i:] {
			for _, three := range []asked{reads, exchanges} {
				eachOrder(t, 2, 0, 6, one, two, three)
			}
		}
	}
}

func TestOneWhileItIsLetGoInEachOrder(t *testing.T) {
	for _, one := range []asked{reads, writes, exchanges, others} {
		for ahead := range 8 {
			eachOrder(t, 1, ahead, 9, one, goes)
			eachOrder(t, 2, ahead, 8, one, goes)
		}
	}
}

func TestOneWhileItIsMovedInEachOrder(t *testing.T) {
	// The last one is brought to where it marks the object, cell by cell.
	for _, one := range []asked{reads, writes, exchanges, others} {
		for ahead := range 13 {
			eachOrder(t, 1, 5+ahead, 9, one, moves)
			eachOrder(t, 2, 5+ahead, 8, one, moves)
		}
	}
}

func TestTwoWhileItIsMovedInEachOrder(t *testing.T) {
	for _, one := range []asked{reads, writes, exchanges} {
		for _, two := range []asked{writes, exchanges, follows} {
			for ahead := range 8 {
				eachOrder(t, 1, 6+ahead, 6, one, two, moves)
			}
		}
	}
}

func TestOneWhileItIsMovedAndLetGoInEachOrder(t *testing.T) {
	for _, one := range []asked{reads, writes, exchanges} {
		for ahead := range 8 {
			eachOrder(t, 1, 6+ahead, 6, one, goes, moves)
			eachOrder(t, 1, 2+ahead, 6, one, moves, goes)
		}
	}
}

func TestOneThatMovesAndLagsBehind(t *testing.T) {
	// Its move was stopped, and the object let go: what it freezes by then lets nobody lay a word of that.
	for ahead := 1; ahead <= 3; ahead++ {
		c := newCrowd(t, arena(2, 3, 17), 4)
		x := c.make(0, 2, false)
		c.move(3, x)
		for c.seats[3].one.(*mover).cell == 0 {
			c.pick(3)
		}
		c.access(0, x.write(0, 7), false)
		if d := c.run(0); d.E != api.OK {
			t.Fatal(d)
		}
		c.access(1, x.write(1, 8), false)
		for range ahead {
			c.pick(1)
		}
		c.drop(2, x)
		if d := c.run(2); d.E != api.OK {
			t.Fatal(d)
		}
		c.run(3)
		if d := c.run(1); d.E != api.ErrInvalid {
			t.Fatal(d)
		}
		c.rest()
	}
}

func TestNoneIsLost(t *testing.T) {
	// Each adds 1, by an exchange of what it read, as often as it must till it is told that it did, while the object is moved on and on.
	for seed := range uint64(60) {
		const seats, each = 4, 6
		c := newCrowd(t, arena(2, 40, 60), seats+1)
		o := c.make(0, 1+int(seed%4), false)
		var is, added [seats]int
		var busy [seats]bool // with an exchange
		x := seed
		var who int
		for sum := 0; sum < seats*each; {
			who, x = mixed(x, seats+1)
			if who == seats {
				if !c.busy(who) && c.moved < 100 {
					c.move(who, o)
				}
				if c.busy(who) {
					c.pick(who)
				}
				continue
			}
			if added[who] == each {
				continue
			}
			if !c.busy(who) {
				if busy[who] {
					c.access(who, o.exchange(0, is[who], is[who]+1), false)
				} else {
					c.access(who, o.read(0), false)
				}
			}
			c.pick(who)
			if c.busy(who) {
				continue
			}
			d := c.told[len(c.told)-1].done
			if busy[who] && d.E == api.OK {
				added[who]++
				sum++
			}
			is[who] = d.Value
			busy[who] = !busy[who] || d.E == api.ErrOther
		}
		c.rest()
		if d := c.read(0, o, 0); d.Value != seats*each {
			t.Fatalf("it is %d", d.Value)
		}
	}
}

// read is what one who is picked alone reads.
func (c *crowd) read(who int, x thing, k int) api.Done {
	c.t.Helper()
	c.access(who, x.read(k), x.own)
	return c.run(who)
}

// begin lets somebody begin something, most often to a few words of the objects that were made last; the last one moves objects.
func (c *crowd) begin(who int, x uint64) uint64 {
	var what, which, k, v, size int
	what, x = mixed(x, 20)
	which, x = mixed(x, 4)
	size, x = mixed(x, api.MostSize)
	k, x = mixed(x, 3)
	v, x = mixed(x, 3)
	if len(c.made) == 0 {
		c.alloc(who, 1+size, x>>40&1 == 0)
		return x
	}
	o := c.made[max(0, len(c.made)-1-which)]
	switch {
	case who == len(c.seats)-1:
		c.move(who, o)
	case what == 0:
		c.alloc(who, 1+size, x>>40&1 == 0)
	case what == 1:
		c.drop(who, o)
	case what == 2:
		c.access(who, api.Want{Kind: 1 + v, Handle: handle(which%c.e.C.Slots, 1+size), Index: k}, x>>40&1 == 0)
	case what == 3:
		c.access(who, o.write(0, v), !o.own)
	case what == 4:
		c.access(who, o.write(o.size-1+k, v), o.own)
	case what < 9:
		c.access(who, o.read(k), o.own)
	case what < 14:
		c.access(who, o.write(k, v), o.own)
	default:
		c.access(who, o.exchange(k, v, (v+1)%3), o.own)
	}
	return x
}

func TestManyWhoeverIsPicked(t *testing.T) {
	all := map[api.Errno]int{}
	for seed := range uint64(150) {
		seats := 2 + int(seed%7)
		a := arena(1+int(seed*5%9), 60, 100+int(seed*7%150))
		a.Gens = 1 + int(seed%13)
		a.Tries = 1 + int(seed%4)
		c := newCrowd(t, a, seats)
		x := seed
		var who int
		for range 1500 {
			if who, x = mixed(x, seats); !c.busy(who) {
				x = c.begin(who, x)
			}
			c.pick(who)
		}
		c.rest()
		for _, x := range c.told {
			if !x.made && !x.gone {
				all[x.done.E]++
			}
		}
	}
	for _, e := range []api.Errno{api.OK, api.ErrInvalid, api.ErrIndex, api.ErrOther} {
		if all[e] < 100 {
			t.Errorf("%d was told %d times", e, all[e])
		}
	}
}

func TestOneThatIsNeverPickedAgainStopsNobody(t *testing.T) {
	// Wherever that is, and whatever it does; others read, lay, exchange, and let go: all of them end.
	for size := 1; size <= 5; size += 2 {
		for i, do := range []asked{reads, writes, exchanges, others, goes, moves} {
			for half := range 4*size + 25 {
				c := newCrowd(t, arena(6, 9, 60), 5)
				o := c.make(0, size, false)
				do(c, 4, o)
				for range half {
					if c.busy(4) {
						c.pick(4)
					}
				}
				for who, other := range []asked{reads, writes, exchanges, follows} {
					other(c, who, o)
					c.run(who)
				}
				c.access(0, o.write(size-1, 3), false)
				d := c.run(0)
				if d.E != api.OK && i != 4 {
					t.Fatalf("behind %d steps of another one: %v", half, d)
				}
				if d = c.read(1, o, size-1); i != 4 && (d.E != api.OK || d.Value != 3) {
					t.Fatalf("behind %d steps of another one: %v", half, d)
				}
				goes(c, 2, o)
				c.run(2)
				if d = c.read(1, o, 0); d.E != api.ErrInvalid {
					t.Fatalf("behind %d steps of another one: %v", half, d)
				}
				c.rest()
			}
		}
	}
}

func TestTwoThatAreNeverPickedAgainStopNobody(t *testing.T) {
	for i, one := range []asked{goes, moves} {
		for _, two := range []asked{writes, exchanges, goes} {
			for first := range 16 {
				for second := range 14 {
					c := newCrowd(t, arena(3, 4, 40), 4)
					o := c.make(0, 2, false)
					one(c, 0, o)
					two(c, 1, o)
					for k := range max(6*i+first, second) {
						if k < 6*i+first && c.busy(0) {
							c.pick(0)
						}
						if k < second && c.busy(1) {
							c.pick(1)
						}
					}
					for _, other := range []asked{reads, writes, exchanges, goes} {
						other(c, 2, o)
						c.run(2)
					}
					if d := c.read(3, o, 0); d.E != api.ErrInvalid {
						t.Fatal(d)
					}
					c.rest()
				}
			}
		}
	}
}

func TestSomeoneEndsWhoeverIsPicked(t *testing.T) {
	// It is in vain only if another one laid the word, moved the object, or let it go.
	for seed := range uint64(30) {
		const seats = 5
		a := arena(6, 60, 250)
		a.Gens = api.MostGen
		c := newCrowd(t, a, seats)
		x := seed
		var who int
		for range 40 {
			was := len(c.told)
			for range seats * 120 {
				if who, x = mixed(x, seats); !c.busy(who) {
					x = c.begin(who, x)
				}
				c.pick(who)
			}
			if len(c.told) == was {
				t.Fatal("nobody ended")
			}
		}
		c.rest()
	}
}
