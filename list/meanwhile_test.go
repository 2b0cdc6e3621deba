package list_test

import (
	"testing"

	"footlocker/api"
	"footlocker/list"
)

// until lets a thread go on till it has done so many acts.
func (c *crowd) until(who, acts int) {
	c.t.Helper()
	s := c.seats[who].two.(*script)
	for s.at < acts {
		c.pick(who)
	}
}

func TestAnotherKeyCameInMeanwhile(t *testing.T) {
	// The link ahead leads to another node by then: all begins anew, with the node, of which just the link is written again.
	c := newCrowd(t, arena(8, 4, 20), 1)
	h := c.heads[0]
	c.scripted(0, add, 5, api.Done{Value: 1}, 9,
		reads(h, 1), makes(), writes(of(1), 0, 5), writes(of(1), 1, 0), exchanges(h, 0, int(of(1))),
		reads(h, 1), reads(of(2), 1), reads(of(2), 0), writes(of(1), 1, 0), exchanges(of(2), 0, int(of(1))))
	c.until(0, 4)
	c.do(1, add, 3)
	c.rest()
}

func TestAGreaterKeyCameInMeanwhile(t *testing.T) {
	c := newCrowd(t, arena(8, 4, 20), 1)
	h := c.heads[0]
	c.scripted(0, add, 5, api.Done{Value: 1}, 9,
		reads(h, 1), makes(), writes(of(1), 0, 5), writes(of(1), 1, 0), exchanges(h, 0, int(of(1))),
		reads(h, 1), reads(of(2), 1), reads(of(2), 0), writes(of(1), 1, int(of(2))), exchanges(h, int(of(2)), int(of(1))))
	c.until(0, 4)
	c.do(1, add, 7)
	c.rest()
}

func TestTheSameKeyCameInMeanwhile(t *testing.T) {
	// The node was made for nothing, and is let go: it was there, where the other one's link was read.
	c := newCrowd(t, arena(8, 4, 20), 1)
	h := c.heads[0]
	c.scripted(0, add, 5, api.Done{}, 6,
		reads(h, 1), makes(), writes(of(1), 0, 5), writes(of(1), 1, 0), exchanges(h, 0, int(of(1))),
		reads(h, 1), reads(of(2), 1), reads(of(2), 0), frees(of(1)))
	c.until(0, 4)
	c.do(1, add, 5)
	c.rest()
	if lives(c.e, 1) || !lives(c.e, 2) {
		t.Fatal("the node that was made for nothing lives")
	}
}

func TestTheHeadWasLetGoMeanwhile(t *testing.T) {
	// Ahead of the node's being shown: the error of the first link's read ends it, and the node is let go.
	c := newCrowd(t, arena(8, 4, 20), 1)
	h := c.heads[0]
	c.scripted(0, add, 5, api.Done{E: api.ErrInvalid}, 5,
		reads(h, 1), makes(), writes(of(1), 0, 5), writes(of(1), 1, 0), exchanges(h, 0, int(of(1))), reads(h, 1), frees(of(1)))
	c.until(0, 4)
	c.act(1, frees(h))
	c.run(0)
	if owned(c.e) != 0 {
		t.Fatal("the node that was made for nothing lives")
	}
	wantSlots(t, c.e)
}

func TestTheNodeAheadWentMeanwhile(t *testing.T) {
	// It is to go, or was let go: all begins anew.
	for _, letGo := range []bool{false, true} {
		c := newCrowd(t, arena(8, 4, 20), 1)
		h := c.heads[0]
		c.fill(3)
		acts := []api.Act{
			reads(h, 1), reads(of(1), 1), reads(of(1), 0),
			makes(), writes(of(2), 0, 5), writes(of(2), 1, 0), exchanges(of(1), 0, int(of(2))), reads(h, 1),
		}
		if !letGo {
			acts = append(acts, reads(of(1), 1), exchanges(h, int(of(1)), 0), frees(of(1)))
		}
		acts = append(acts, writes(of(2), 1, 0), exchanges(h, 0, int(of(2))))
		c.scripted(0, add, 5, api.Done{Value: 1}, len(acts)-1, acts...)
		c.until(0, 6)
		if letGo {
			c.do(1, remove, 3)
		} else {
			c.act(1, exchanges(of(1), 0, toGo))
			c.told = append(c.told, told{1, remove, 3, h, api.Done{Value: 1, Stamp: c.e.Now() - 1}, c.e.Now() - 2, c.e.Now()})
		}
		c.rest()
	}
}

func TestTheLinkIsAnotherOneMeanwhile(t *testing.T) {
	// A key came in behind the one that is to go: all begins anew.
	c := newCrowd(t, arena(8, 4, 20), 1)
	h := c.heads[0]
	c.fill(5)
	look := []api.Act{reads(h, 1), reads(of(1), 1), reads(of(1), 0)}
	acts := append([]api.Act{}, look...)
	acts = append(acts, exchanges(of(1), 0, toGo))
	acts = append(acts, look...)
	acts = append(acts, exchanges(of(1), int(of(2)), int(of(2))+toGo), exchanges(h, int(of(1)), int(of(2))), frees(of(1)))
	c.scripted(0, remove, 5, api.Done{Value: 1}, 7, acts...)
	c.until(0, 3)
	c.do(1, add, 7)
	c.rest()
}

func TestAnotherOneLetsTheKeyGoMeanwhile(t *testing.T) {
	// The other one stays where the node is to go: this one leads past it, lets it go, and is told 0.
	c := newCrowd(t, arena(8, 4, 20), 1)
	h := c.heads[0]
	c.fill(5)
	c.scripted(0, remove, 5, api.Done{}, 6,
		reads(h, 1), reads(of(1), 1), reads(of(1), 0), exchanges(of(1), 0, toGo),
		reads(h, 1), reads(of(1), 1), exchanges(h, int(of(1)), 0), frees(of(1)))
	// The other one finds another link ahead, and lets nothing go.
	c.scripted(1, remove, 5, api.Done{Value: 1}, 3,
		reads(h, 1), reads(of(1), 1), reads(of(1), 0), exchanges(of(1), 0, toGo), exchanges(h, int(of(1)), 0))
	c.until(0, 3)
	c.until(1, 4)
	c.run(0)
	if lives(c.e, 1) {
		t.Fatal("the node lives")
	}
	c.rest()
}

func TestTheLinkAheadIsAnotherOneThen(t *testing.T) {
	// A key came in ahead of the node that is to go: it stays, till somebody comes upon it.
	c := newCrowd(t, arena(8, 4, 20), 1)
	h := c.heads[0]
	c.fill(5)
	c.scripted(0, remove, 5, api.Done{Value: 1}, 3,
		reads(h, 1), reads(of(1), 1), reads(of(1), 0), exchanges(of(1), 0, toGo), exchanges(h, int(of(1)), 0))
	c.until(0, 3)
	c.do(1, add, 3)
	c.run(0)
	if l := walked(t, c.e, h); len(l) != 2 || l[0].gone() || !l[1].gone() {
		t.Fatal(l)
	}
	c.rest()
	c.do(2, has, 2)
	c.wantActs(2, has, 4, 0, 4, reads(h, 1), reads(of(2), 1), reads(of(2), 0), reads(of(1), 1), exchanges(of(2), int(of(1)), 0), frees(of(1)))
	if l := walked(t, c.e, h); len(l) != 1 || owned(c.e) != 2 {
		t.Fatal(l)
	}
	c.rest()
}

func TestTheNodeWasLetGoMeanwhile(t *testing.T) {
	// Ahead of its link's being read, and ahead of its key's: all begins anew.
	for half := 1; half <= 2; half++ {
		for kind := has; kind <= remove; kind++ {
			c := newCrowd(t, arena(8, 4, 20), 1)
			h := c.heads[0]
			c.fill(5)
			acts := []api.Act{reads(h, 1), reads(of(1), 1), reads(of(1), 0)}[:1+half]
			acts = append(acts, reads(h, 1))
			which, value := len(acts)-1, 0
			if kind == add {
				// The slot is used again, in its second life.
				n := handle(1, 2)
				acts = append(acts, makes(), writes(n, 0, 5), writes(n, 1, 0), exchanges(h, 0, int(n)))
				which, value = len(acts)-1, 1
			}
			c.scripted(0, kind, 5, api.Done{Value: value}, which, acts...)
			c.until(0, half)
			c.do(1, remove, 5)
			c.rest()
		}
	}
}

func TestAnotherOneLeadsPastItMeanwhile(t *testing.T) {
	// Two came upon the same node that is to go: one leads past it, and the other one begins anew.
	c := newCrowd(t, arena(8, 4, 20), 1)
	h := c.heads[0]
	n := c.act(0, makes()).Handle
	c.act(0, writes(n, 0, 5))
	c.act(0, writes(n, 1, toGo))
	c.act(0, exchanges(h, 0, int(n)))
	c.scripted(0, has, 5, api.Done{}, 3, reads(h, 1), reads(n, 1), exchanges(h, int(n), 0), reads(h, 1))
	c.scripted(1, has, 5, api.Done{}, 2, reads(h, 1), reads(n, 1), exchanges(h, int(n), 0), frees(n))
	c.until(0, 2)
	c.run(1)
	c.rest()
	if owned(c.e) != 1 {
		t.Fatal("the node lives")
	}
}

func TestAKeyIsThereWhereItsLinkWasRead(t *testing.T) {
	// It goes ahead of its key's being read, but its node stays: that it was there is told, at a step at which it was.
	c := newCrowd(t, arena(8, 4, 20), 1)
	h := c.heads[0]
	c.fill(5)
	c.scripted(0, has, 5, api.Done{Value: 1}, 1, reads(h, 1), reads(of(1), 1), reads(of(1), 0))
	c.until(0, 2)
	c.scripted(1, remove, 5, api.Done{Value: 1}, 3,
		reads(h, 1), reads(of(1), 1), reads(of(1), 0), exchanges(of(1), 0, toGo), exchanges(h, int(of(1)), 0), frees(of(1)))
	c.until(1, 4)
	if d := c.run(0); d.Value != 1 {
		t.Fatal(d)
	}
	c.rest()
}

func TestAKeyIsNotThereWhereTheLinkAheadWasRead(t *testing.T) {
	// It comes in behind that step: that it was not there is told, at a step at which it was not.
	c := three(t)
	h := c.heads[0]
	c.scripted(0, has, 4, api.Done{}, 1, reads(h, 1), reads(of(1), 1), reads(of(1), 0), reads(of(2), 1), reads(of(2), 0))
	c.until(0, 2)
	c.do(1, add, 4)
	if d := c.run(0); d.Value != 0 {
		t.Fatal(d)
	}
	c.rest()
}

func TestTheNodeThatWasMadeIsLetGoByOthers(t *testing.T) {
	// Nobody who keeps to the calls does so. The error is told, nothing comes in, and it ends.
	for acts := 2; acts <= 3; acts++ {
		c := newCrowd(t, arena(8, 4, 20), 1)
		h := c.heads[0]
		c.scripted(0, add, 5, api.Done{E: api.ErrInvalid}, acts,
			append([]api.Act{reads(h, 1), makes(), writes(of(1), 0, 5), writes(of(1), 1, 0)}[:acts+1], frees(of(1)))...)
		c.until(0, acts)
		c.act(1, frees(of(1)))
		c.run(0)
		if owned(c.e) != 1 || len(walked(t, c.e, h)) != 0 {
			t.Fatal("something came in")
		}
		wantSlots(t, c.e)
	}
}

func TestLinksThatNobodyLays(t *testing.T) {
	// The head's link says that it is to go, or has bits that no link has: what is asked ends all the same, and whether it is to go stays as it is.
	for _, more := range []int{toGo, toGo << 1, 1 << 39, toGo | 1<<37} {
		for kind := has; kind <= remove; kind++ {
			c := three(t)
			h := c.heads[0]
			c.act(0, exchanges(h, int(of(1)), int(of(1))+more))
			l := []*list.List{asks(t, kind, 3, h), asks(t, add, 1, h)}
			for _, one := range l {
				if d := wantEnds(t, c.e, one); d.E != api.OK {
					t.Fatal(d)
				}
			}
			if d := l[1].Done(); d.Value != 1 || found(t, c.e, h).gone() != (more&toGo != 0) {
				t.Fatal(d)
			}
		}
	}
}
