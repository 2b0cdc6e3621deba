package compact_test

import (
	"slices"
	"testing"

	"footlocker/api"
	"footlocker/compact"
	"footlocker/layout"
)

// kind is what stands at a place of a chunk that is evacuated.
type kind int

const (
	aDead    kind = iota // a copy that is not used
	aGone                // an object that was let go: its slot is in another life
	aFree                // the same; its slot is free in that life
	aRetired             // the same; its slot is retired
	aStale               // an object that stands elsewhere by now
	aLive                // one that lives
	aPlain               // the same, of another size of its class
	aDropped             // one that is just being let go
	aWorn                // one whose version is as great as may be
	anEmpty              // no head
	aPending             // one that is about to be shown
	aShown               // one that lives, the head of which is Pending still
	kinds
)

// stays is whether the chunk is left behind such a thing; moves, whether it is moved.
func (k kind) stays() bool { return k >= aDropped }
func (k kind) moves() bool { return k == aLive || k == aPlain }

// put lays such a thing of a class into a place of chunk 0; its slot is the place's number.
func put(e layout.Env, k kind, class, place int) thing {
	size := rooms[class] - 1
	if k == aPlain {
		size = size/2 + 1
	}
	x := thing{slot: place, gen: 4, state: live, ver: 2, size: size, own: place%2 == 0, addr: baseAt(e.C, 0) + place*rooms[class]}
	layObject(e, x)
	at := slotAt(e.C, place)
	switch k {
	case aDead:
		e.M.Store(x.addr, x.head(dead))
	case aGone:
		e.M.Store(at, slotWord(live, x.addr, 5, 2))
	case aFree:
		e.M.Store(at, slotWord(vacant, x.addr, 4, 2))
	case aRetired:
		e.M.Store(at, slotWord(retired, x.addr, 4, 2))
	case aStale:
		e.M.Store(at, slotWord(live, x.addr+rooms[class], 4, 2))
	case aDropped:
		e.M.Store(at, slotWord(dropping, x.addr, 4, 2))
	case aWorn:
		e.M.Store(at, slotWord(live, x.addr, 4, api.MostVer-1))
	case anEmpty:
		e.M.Store(x.addr, 0)
	case aPending:
		e.M.Store(x.addr, x.head(pending))
		e.M.Store(at, slotWord(vacant, 0, 4, 0))
	case aShown:
		e.M.Store(x.addr, x.head(pending))
	}
	return x
}

// wantObjects asks for what becomes of a chunk with these things, one behind the other.
func wantObjects(t *testing.T, class int, l ...kind) {
	t.Helper()
	e := filled(t, arena(8, 3, 90))
	used := len(l) * rooms[class]
	w := chunkWord(open, class, used, 7)
	layChunk(e, 0, w, 0, 0)
	layChunk(e, 1, chunkWord(open, class, 0, 1), 0, 0)
	layChunk(e, 2, chunkWord(free, 0, 0, 1), 0, 0)
	e.M.Store(openAt(class), 2)
	var there []thing
	for place, k := range l {
		there = append(there, put(e, k, class, place))
	}
	moved, state := 0, quiet
	for _, k := range l {
		if k.moves() {
			moved++
		}
		if k.stays() {
			state = open
			break
		}
	}
	c, p, m := compact.New(), newTeller(), twin(t, e.M)
	defer p.stop()
	for p.work.Rounds == 0 {
		follow(t, e, c, p, m)
	}
	if !slices.Equal(words(e.M), words(m)) {
		t.Fatalf("of class %d %v: the words are others", class, l)
	}
	if got := e.M.Peek(chunkAt(e.C, 0)); got != chunkWord(state, class, used, 9) {
		t.Fatalf("of class %d %v: the chunk is %#x", class, l, got)
	}
	wantWork(t, c, state/quiet, 1-state/quiet, 0, moved, 1)
	wantPlaces(t, e, l, there, moved)
}

// wantPlaces asks that those that were moved, which are the first ones of them, stand in the next chunk, and that all others that live stand where they stood.
func wantPlaces(t *testing.T, e layout.Env, l []kind, there []thing, moved int) {
	t.Helper()
	n := 0
	for place, k := range l {
		x := there[place]
		switch {
		case k.moves() && n < moved:
			n++
			if y := found(e, x.slot); chunkOf(e.C, y.addr) != 1 || y.ver != 3 || y.state != live || y.size != x.size {
				t.Fatalf("%v: the object at place %d is %v", l, place, y)
			}
			wantThere(t, e, x)
		case k.moves() || k == aShown || k == aWorn:
			if y := found(e, x.slot); y.addr != x.addr {
				t.Fatalf("%v: the object at place %d is %v", l, place, y)
			}
			wantThere(t, e, x)
		}
	}
}

func TestEachTwoThings(t *testing.T) {
	for class := range 4 {
		for a := range kinds {
			wantObjects(t, class, a)
			for b := range kinds {
				wantObjects(t, class, a, b)
			}
		}
	}
}

func TestEachFiveThings(t *testing.T) {
	l := []kind{aDead, aGone, aLive, aPlain, aPending}
	n := len(l)
	for order := range n * n * n * n * n {
		wantObjects(t, order%4, l[order%n], l[order/n%n], l[order/n/n%n], l[order/n/n/n%n], l[order/n/n/n/n])
	}
}

func TestThingsBehindOneThatStays(t *testing.T) {
	// They are not looked at, whatever they are.
	for stays := aDropped; stays < kinds; stays++ {
		for k := range kinds {
			for class := range 4 {
				wantObjects(t, class, aLive, stays, k, aPlain)
			}
		}
	}
}

func TestNoRoom(t *testing.T) {
	// Of objects that find no room the chunk is left; those that found it are moved.
	for class := range 4 {
		for room := range 4 {
			e := filled(t, arena(8, 3, 70))
			each := rooms[class]
			full := 70 / each * each
			layChunk(e, 0, chunkWord(open, class, 4*each, 7), each, 0)
			layChunk(e, 1, chunkWord(open, class, full-min(room, 70/each)*each, 1), full, 0)
			layChunk(e, 2, chunkWord(open, (class+1)%4, 60, 1), 60, 0)
			e.M.Store(openAt(class), 2)
			for place := range 4 {
				put(e, aLive, class, place)
			}
			c, p, m := compact.New(), newTeller(), twin(t, e.M)
			for p.work.Rounds < 3 {
				follow(t, e, c, p, m)
			}
			p.stop()
			// Those that are elsewhere are passed over the next time; and then nothing is done but that it is tried.
			wantWork(t, c, 0, 3, 0, room, 3)
			if idle := c.Idle(); room > 0 && idle != 2 || room == 0 && idle != 3 {
				t.Fatalf("with room for %d it is idle %d", room, idle)
			}
			if w := e.M.Peek(chunkAt(e.C, 0)); w != chunkWord(open, class, 4*each, 13) {
				t.Fatalf("it is %#x", w)
			}
		}
	}
}

func TestAChunkThatIsTakenForTheCopies(t *testing.T) {
	// No chunk of the class has room: a free one is taken, and is the open one.
	for class := range 4 {
		e := filled(t, arena(8, 4, 70))
		each := rooms[class]
		layChunk(e, 0, chunkWord(open, class, 4*each, 7), each, 0)
		layChunk(e, 1, chunkWord(open, (class+1)%4, 60, 1), 60, 0)
		layChunk(e, 2, chunkWord(free, 0, 0, 5), 0, 0)
		layChunk(e, 3, chunkWord(free, 0, 0, 8), 0, 0)
		var l []thing
		for place := range 4 {
			l = append(l, put(e, aLive, class, place))
		}
		c := compact.New()
		rounds(t, e, c, 1)
		wantWork(t, c, 1, 0, 0, 4, 1)
		if w := e.M.Peek(chunkAt(e.C, 2)); w != chunkWord(open, class, 4*each, 6) || e.M.Peek(openAt(class)) != 3 {
			t.Fatalf("it is %#x", w)
		}
		wantThere(t, e, l...)
		rounds(t, e, c, 1)
		wantWork(t, c, 1, 0, 1, 4, 2)
		for k := range 70 {
			if w := e.M.Peek(baseAt(e.C, 0) + k); k < 4*each && w != 0 {
				t.Fatalf("word %d is %#x", k, w)
			}
		}
	}
}

func TestAChunkThatIsLeftIsEvacuatedLater(t *testing.T) {
	// Round by round it is tried anew, from its first object on.
	for stays := aDropped; stays < kinds; stays++ {
		e := filled(t, arena(8, 3, 90))
		layChunk(e, 0, chunkWord(open, 1, 20, 7), 0, 0)
		layChunk(e, 1, chunkWord(open, 1, 0, 1), 0, 0)
		layChunk(e, 2, chunkWord(free, 0, 0, 1), 0, 0)
		e.M.Store(openAt(1), 2)
		a, b := put(e, aLive, 1, 0), put(e, aPlain, 1, 3)
		put(e, aGone, 1, 1)
		x := put(e, stays, 1, 2)
		c := compact.New()
		for n := 1; n <= 5; n++ {
			round(t, e, c)
			wantWork(t, c, 0, n, 0, 1, n)
			if c.Idle() != n-1 {
				t.Fatalf("behind round %d it is idle %d", n, c.Idle())
			}
			if w := e.M.Peek(chunkAt(e.C, 0)); w != chunkWord(open, 1, 20, 7+2*n) {
				t.Fatalf("it is %#x", w)
			}
		}
		layObject(e, x)
		round(t, e, c)
		wantWork(t, c, 1, 5, 0, 3, 6)
		round(t, e, c)
		wantWork(t, c, 1, 5, 1, 3, 7)
		if c.Idle() != 0 {
			t.Fatal(c.Idle())
		}
		wantThere(t, e, a, b, x)
	}
}
