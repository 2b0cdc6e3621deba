package list_test

import (
	"slices"
	"testing"

	"footlocker/api"
)

// ask is something that is asked.
type ask struct{ kind, key int }

// several is what two or three may ask of a list of the keys 3, 5, 7: the same key, neighbours, ends.
func several() []ask {
	return []ask{{has, 5}, {add, 5}, {remove, 5}, {add, 4}, {has, 4}, {remove, 3}, {remove, 7}, {add, 8}, {add, 2}}
}

func TestTwoInEachOrder(t *testing.T) {
	t.Parallel()
	// One does some steps, another one some or all, and so on.
	for i, a := range several() {
		for j, b := range several() {
			for half := (i + j) % 3; half < 110; half += 3 {
				for part := half % 17; part < 100; part += 17 {
					c := three(t)
					c.begin(0, a.kind, a.key)
					c.begin(1, b.kind, b.key)
					c.picked(0, half)
					c.picked(1, part)
					c.picked(0, 1+part%7)
					c.picked(1, 1+half%11)
					c.rest()
				}
			}
		}
	}
}

func TestOneWithinTheOther(t *testing.T) {
	t.Parallel()
	// At each step of one another one does all of it.
	for _, a := range several() {
		for _, b := range several() {
			for half := 0; ; half++ {
				c := three(t)
				c.begin(0, a.kind, a.key)
				c.picked(0, half)
				if !c.busy(0) {
					break
				}
				c.do(1, b.kind, b.key)
				c.rest()
			}
		}
	}
}

func TestThreeWhoeverIsPicked(t *testing.T) {
	t.Parallel()
	for i, a := range several() {
		for j, b := range several() {
			for seed := range uint64(25) {
				c := three(t)
				c.begin(0, a.kind, a.key)
				c.begin(1, b.kind, b.key)
				d := several()[(seed+uint64(i*j))%9]
				c.begin(2, d.kind, d.key)
				x := seed
				for range 400 {
					var who int
					who, x = mixed(x, 3)
					c.picked(who, 1+int(x>>60)*int(seed%4))
				}
				c.rest()
			}
		}
	}
}

// crowded lets threads ask, whoever is picked, with or without a compactor.
func crowded(t *testing.T, seed uint64, a api.Config, lists, few int) *crowd {
	t.Helper()
	c := newCrowd(t, a, lists)
	x := seed
	for range 12000 {
		var who, kind, key, which int
		// Every other time a compactor is picked, too.
		if who, x = mixed(x, a.Threads+int(seed%2)*(1+a.Threads/2)); who >= a.Threads {
			c.compacts(1)
			continue
		}
		if !c.busy(who) {
			kind, x = mixed(x, 7)
			key, x = mixed(x, few)
			which, x = mixed(x, lists)
			c.beginAt(who, 1+(kind+1)/3, key, c.heads[which])
		}
		c.pick(who)
	}
	c.rest()
	return c
}

func TestManyWhoeverIsPicked(t *testing.T) {
	t.Parallel()
	counts := map[api.Done]int{}
	var all api.Work
	for seed := range uint64(160) {
		lists := 1 + int(seed%5/3)
		a := arena(lists+1+int(seed*5%23), 3+int(seed%6), api.LeastChunk+int(seed*7%45))
		a.Threads = 1 + int(seed%api.MostThreads)
		a.Gens = 1 + int(seed*seed%199)
		a.Tries = 1 + int(seed%4)
		a.Sparse = []int{600, 1000, 800, 0, 400}[seed%5]
		c := crowded(t, seed, a, lists, 1+int(seed%11))
		for _, y := range c.told {
			y.done.Stamp = 0
			counts[y.done]++
		}
		w := c.k.Work()
		all.Evacuated += w.Evacuated
		all.Freed += w.Freed
		all.Moved += w.Moved
	}
	for _, d := range []api.Done{{}, {Value: 1}, {E: api.ErrHandles}, {E: api.ErrMemory}} {
		if counts[d] < 100 {
			t.Errorf("%+v was told %d times", d, counts[d])
		}
	}
	if all.Evacuated < 100 || all.Freed < 100 || all.Moved < 100 {
		t.Errorf("%+v", all)
	}
}

func TestOfManyJustOne(t *testing.T) {
	t.Parallel()
	// All let the same key come in, then all let it go: each time just one is told that it did.
	for seed := range uint64(120) {
		a := arena(14, 20, 60)
		a.Threads = 2 + int(seed%7)
		c := newCrowd(t, a, 1)
		if seed%3 > 0 {
			c.fill(2)
		}
		if seed%3 > 1 {
			c.fill(8)
		}
		x := seed
		for _, kind := range []int{add, remove, add, remove} {
			from := len(c.told)
			for who := range a.Threads {
				c.begin(who, kind, 5)
			}
			for range 60 * a.Threads {
				var who int
				who, x = mixed(x, a.Threads)
				c.picked(who, 1+int(seed%5)*int(x>>62))
			}
			c.rest()
			sum := 0
			for _, y := range c.told[from:] {
				sum += y.done.Value
			}
			if sum != 1 || len(c.told) != from+a.Threads {
				t.Fatalf("kind %d: %d of %d were told that they did", kind, sum, len(c.told)-from)
			}
		}
	}
}

func TestOneThatIsNeverPickedAgainStopsNobody(t *testing.T) {
	t.Parallel()
	for _, a := range several() {
		for half := 0; ; half++ {
			c := three(t)
			c.begin(0, a.kind, a.key)
			c.picked(0, half)
			if !c.busy(0) {
				break
			}
			// Each of these is done, alone; what they are told is what it is, but for the key that the other one lets come in or go.
			for _, b := range several() {
				if d := c.do(1, b.kind, b.key); d.E != api.OK {
					t.Fatalf("%+v: %+v", b, d)
				}
			}
			c.compacts(300)
			for key := range 10 {
				if d := c.do(2, remove, key); d.E != api.OK {
					t.Fatal(d)
				}
				if d := c.do(1, has, key); d.E != api.OK || d.Value != 0 {
					t.Fatal(d)
				}
				if d := c.do(2, add, key); d.E == api.OK && d.Value != 1 {
					t.Fatal(d)
				}
				c.do(1, remove, key)
			}
			if l := walked(t, c.e, c.heads[0]); len(l) != 0 {
				t.Fatal(l)
			}
			// When it is picked at last, it ends, too.
			c.run(0)
			c.rest()
		}
	}
}

func TestSomeCallEndsWhoeverIsPicked(t *testing.T) {
	t.Parallel()
	// Picked in turn, step by step, all that ask end.
	for _, a := range several() {
		for _, b := range several() {
			for each := 1; each <= 5; each++ {
				c := three(t)
				c.begin(0, a.kind, a.key)
				c.begin(1, b.kind, b.key)
				c.begin(2, a.kind, a.key)
				for most := 2000; c.busy(0) || c.busy(1) || c.busy(2); most-- {
					if most < 0 {
						t.Fatalf("%+v, %+v: they are not done", a, b)
					}
					for who := range 3 {
						c.picked(who, each)
					}
				}
				c.rest()
			}
		}
	}
}

func TestOneThreadIsToldTheSameWithACompactor(t *testing.T) {
	t.Parallel()
	// There is room enough without one.
	for seed := range uint64(20) {
		a := arena(20, 60, 120)
		a.Threads = 1
		a.Sparse = 900
		play := func(each int) []api.Done {
			c := newCrowd(t, a, 1)
			x := seed
			for range 80 {
				var kind, key int
				kind, x = mixed(x, 5)
				key, x = mixed(x, 9)
				for c.begin(0, 1+(kind+1)/2, key); c.busy(0); c.compacts(each) {
					c.pick(0)
				}
			}
			c.rest()
			var l []api.Done
			for _, y := range c.told {
				y.done.Stamp = 0
				l = append(l, y.done)
			}
			return l
		}
		alone := play(0)
		for each := 1; each <= 8; each += 1 + int(seed%4) {
			if with := play(each); !slices.Equal(with, alone) {
				t.Fatalf("%v is told, and alone %v", with, alone)
			}
		}
	}
}
