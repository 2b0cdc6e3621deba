package compact_test

import (
	"iter"
	"testing"

	"footlocker/api"
	"footlocker/compact"
	"footlocker/epoch"
	"footlocker/layout"
	"footlocker/mem"
	"footlocker/move"
	"footlocker/policy"
)

// teller is a compactor as the chapter's words tell it, one behind the other, in a memory of its own. It stays where it is ahead of each step, till it is picked.
type teller struct {
	next  func() (struct{}, bool)
	stop  func()
	e     layout.Env // of the step that is done
	rest  func(struct{}) bool
	first bool
	work  api.Work
	busy  bool
	idle  int
	vain  int // how often a chunk was let be
}

// over is why one ends whom nobody picks any more.
type over struct{}

func newTeller() *teller {
	p := &teller{first: true}
	p.next, p.stop = iter.Pull(func(yield func(struct{}) bool) {
		defer func() {
			if r := recover(); r != nil && r != (over{}) {
				panic(r)
			}
		}()
		p.rest = yield
		for {
			p.round()
		}
	})
	return p
}

// Step does a step, and goes on up to the next one.
func (p *teller) Step(e layout.Env) {
	p.e = e
	p.next()
}

// wait stays there till it is picked again.
func (p *teller) wait() layout.Env {
	if !p.first && !p.rest(struct{}{}) {
		panic(over{})
	}
	p.first = false
	p.busy = true
	return p.e
}

func (p *teller) load(a int) uint64 { return p.wait().Load(a) }

func (p *teller) store(a int, w uint64) { p.wait().Store(a, w) }

// round is a round.
func (p *teller) round() {
	was := p.work
	l := p.look()
	if i := policy.Choose(p.e.C, l); i >= 0 {
		c := l[i].Chunk
		p.evacuate(i, chunkWord(c.State, c.Class, c.Used, c.Stamp))
	}
	a := &epoch.Advance{}
	for !a.Step(p.wait()) {
	}
	for i := range p.e.C.Chunks {
		s := epoch.NewSettle(i)
		for !s.Step(p.wait()) {
		}
		if s.Freed() {
			p.work.Freed++
		}
	}
	p.idle++
	if was != (api.Work{Evacuated: p.work.Evacuated, Left: was.Left, Freed: p.work.Freed, Moved: p.work.Moved, Rounds: was.Rounds}) {
		p.idle = 0
	}
	p.work.Rounds++
	p.busy = false
}

// look is what is seen of all chunks.
func (p *teller) look() []api.Seen {
	var l []api.Seen
	for i := range p.e.C.Chunks {
		w := p.load(chunkAt(p.e.C, i))
		n := p.load(liveAt(p.e.C, i))
		l = append(l, api.Seen{
			Chunk: api.Chunk{State: kindOf(w), Class: classOf(w), Used: usedOf(w), Stamp: stampOf(w)},
			Live:  int(n),
		})
	}
	for class := range 4 {
		n := int(p.load(openAt(class)))
		if n > 0 && n <= len(l) && l[n-1].Chunk.Class == class {
			l[n-1].Open = true
		}
	}
	return l
}

// evacuate evacuates a chunk, unless its word is another one by now.
func (p *teller) evacuate(i int, w uint64) {
	e := p.wait()
	at := chunkAt(e.C, i)
	evacuated := turned(w, evac)
	if !e.Cas(at, w, evacuated) {
		p.vain++
		return
	}
	w = evacuated
	room := rooms[classOf(w)]
	for k := 0; k < usedOf(w); k += room {
		if !p.gone(baseAt(e.C, i) + k) {
			p.store(at, turned(w, open))
			p.work.Left++
			return
		}
	}
	p.store(sinceAt(e.C, i), p.load(epochAt))
	p.store(at, turned(w, quiet))
	p.work.Evacuated++
}

// gone lets an object be elsewhere, or sees that it lives no more: whether it is so.
func (p *teller) gone(addr int) bool {
	h := p.load(addr)
	if h&3 == dead {
		return true
	}
	if h&3 != ready {
		return false
	}
	m := move.New(addr, api.Head{Kind: ready, Size: sizeOf(h), Slot: int(h >> 18 & (1<<16 - 1)), Gen: int(h >> 34 & (1<<16 - 1)), Own: ownOf(h)})
	for !m.Step(p.wait()) {
	}
	if m.Out() == api.MoveDone {
		p.work.Moved++
	}
	return m.Out() == api.MoveDone || m.Out() == api.MoveDead
}

// twin is a memory that is the same, word by word.
func twin(t *testing.T, m *mem.Mem) *mem.Mem {
	t.Helper()
	y, e := mem.New(m.Len())
	if e != api.OK {
		t.Fatal(e)
	}
	for a, w := range words(m) {
		y.Store(a, w)
	}
	return y
}

// follow does a step, and asks that it does what the teller does in a memory that was the same ahead of it.
func follow(t *testing.T, e layout.Env, c *compact.Compactor, p *teller, other *mem.Mem) {
	t.Helper()
	now, then := e.Now(), other.Steps()
	c.Step(e)
	p.Step(layout.Env{C: e.C, M: other, Who: e.Who})
	if n := other.Steps() - then; e.Now()-now != n || n > 1 {
		t.Fatalf("%d steps, not %d", e.Now()-now, n)
	}
	wantTold(t, c, p)
	last := e.M.Last()
	if e.Now() == now {
		return
	}
	if last != other.Last() || last.Who != e.Who {
		t.Fatalf("noted is %v, not %v", last, other.Last())
	}
	// All words were the same ahead of it, so that just the one that was touched can be another one.
	if w := e.M.Peek(last.Addr); w != other.Peek(last.Addr) {
		t.Fatalf("word %d is %#x, not %#x", last.Addr, w, other.Peek(last.Addr))
	}
	wantGiven(t, e)
}

// wantTold asks that it tells what the teller tells.
func wantTold(t *testing.T, c *compact.Compactor, p *teller) {
	t.Helper()
	if c.Work() != p.work || c.Busy() != p.busy || c.Idle() != p.idle {
		t.Fatalf("it tells %+v, %v, %d, not %+v, %v, %d", c.Work(), c.Busy(), c.Idle(), p.work, p.busy, p.idle)
	}
}
