package worker_test

import (
	"slices"
	"testing"

	"footlocker/act"
	"footlocker/api"
	"footlocker/layout"
	"footlocker/list"
	"footlocker/mem"
	"footlocker/shelf"
	"footlocker/word"
	"footlocker/worker"
)

// Ends of what calls may have, and of how many there may be.
const (
	mostValue = 1<<40 - 1
	mostKey   = 1<<30 - 1
	mostCalls = 64
	threads   = 8 // that there may be
)

// arena is an arena of so many slots, and so many chunks of so many words.
func arena(slots, chunks, words int) api.Config {
	return api.Config{Threads: 3, Slots: slots, Chunks: chunks, Words: words, Gens: 999, Sparse: 600, Tries: 3}
}

// entered is a thread in a fresh arena.
func entered(t *testing.T, c api.Config, who int) layout.Env {
	t.Helper()
	m, e := layout.Fresh(c)
	if e != api.OK {
		t.Fatal(e)
	}
	return layout.Env{C: c, M: m, Who: who}
}

// by is somebody else in the same arena.
func by(e layout.Env, who int) layout.Env {
	e.Who = who
	return e
}

// shelved is a shelf of so many lists, that must be.
func shelved(t *testing.T, e layout.Env, lists int) *shelf.Shelf {
	t.Helper()
	s, err := shelf.Fresh(e, lists)
	if err != api.OK {
		t.Fatal(err)
	}
	return s
}

// words is a memory's words, without a step.
func words(m *mem.Mem) []uint64 {
	l := make([]uint64, m.Len())
	for a := range l {
		l[a] = m.Peek(a)
	}
	return l
}

// mixed is a number below n, and what the next one is made of.
func mixed(x uint64, n int) (int, uint64) {
	x = x*6364136223846793005 + 1442695040888963407
	return int(x >> 33 % uint64(n)), x
}

// wantNoStep asks that something touches nothing.
func wantNoStep(t *testing.T, e layout.Env, do func()) {
	t.Helper()
	now, last, l := e.Now(), e.M.Last(), words(e.M)
	do()
	if e.Now() != now || e.M.Last() != last || !slices.Equal(words(e.M), l) {
		t.Fatalf("%v: touched was %v", e.C, e.M.Last())
	}
}

// from is what the at-th call of a thread made; raw is a handle itself.
func from(thread, at int) api.Ref { return api.Ref{Thread: thread, At: at} }
func raw(handle uint64) api.Ref   { return api.Ref{Thread: -1, Raw: handle} }

// These are calls.
func makes(size int) api.Call { return api.Call{Kind: 1, Size: size} }

func frees(r api.Ref) api.Call { return api.Call{Kind: 2, Ref: r} }

func reads(r api.Ref, k int) api.Call {
	return api.Call{Kind: 3, Ref: r, Index: k}
}

func writes(r api.Ref, k, value int) api.Call {
	return api.Call{Kind: 4, Ref: r, Index: k, Value: value}
}

func exchanges(r api.Ref, k, old, value int) api.Call {
	return api.Call{Kind: 5, Ref: r, Index: k, Old: old, Value: value}
}

func has(key int) api.Call     { return api.Call{Kind: 6, Key: key} }
func adds(key int) api.Call    { return api.Call{Kind: 7, Key: key} }
func removes(key int) api.Call { return api.Call{Kind: 8, Key: key} }

// each is a call of each kind, of an object.
func each(r api.Ref) []api.Call {
	return []api.Call{makes(2), frees(r), reads(r, 1), writes(r, 1, 7), exchanges(r, 1, 7, 8), has(4), adds(4), removes(4)}
}

// hired is a thread with calls, that must be.
func hired(t *testing.T, me int, l []api.Call, s *shelf.Shelf) *worker.Worker {
	t.Helper()
	w, e := worker.New(me, l, s)
	if e != api.OK || w == nil {
		t.Fatalf("%+v: %v", l, e)
	}
	return w
}

// own tells handles that a thread made itself; of all others none.
func own(me int, w *worker.Worker) func(r api.Ref) uint64 {
	return func(r api.Ref) uint64 {
		if r.Thread != me {
			return 0
		}
		return w.Made(r.At)
	}
}

// run lets a thread work on, alone, till nothing is to do: what was told of its calls.
func run(t *testing.T, e layout.Env, w *worker.Worker, made func(r api.Ref) uint64) []api.Told {
	t.Helper()
	for most := 99999; w.Step(e, made); most-- {
		if most < 0 {
			t.Fatalf("%v: it does not end", e.C)
		}
	}
	if !w.Ended() || !w.Idle() {
		t.Fatalf("ended is %v, idle is %v", w.Ended(), w.Idle())
	}
	return w.Told()
}

// did is what the calls of one who is alone come to; they are those of thread 0.
func did(t *testing.T, e layout.Env, s *shelf.Shelf, l ...api.Call) []api.Told {
	t.Helper()
	w := hired(t, 0, l, s)
	told := run(t, e, w, own(0, w))
	if len(told) != len(l) {
		t.Fatalf("of %d calls %d were told", len(l), len(told))
	}
	return told
}

// come is what calls came to, without their steps.
func come(l []api.Told) []api.Done {
	d := make([]api.Done, len(l))
	for i, x := range l {
		d[i] = x.Done
		d[i].Stamp = 0
	}
	return d
}

// wantCome asks what calls came to, besides their steps.
func wantCome(t *testing.T, l []api.Told, want ...api.Done) {
	t.Helper()
	if got := come(l); !slices.Equal(got, want) {
		t.Fatalf("they came to %+v, not %+v", got, want)
	}
}

// below is whoever of the layers below does a call.
type below interface {
	Step(e layout.Env) bool
	Done() api.Done
}

// teller is a thread that does calls as the chapter's words tell it, in a memory of its own. How an act, or what is asked of a list, is done the layers below tell it.
type teller struct {
	t    *testing.T
	me   int
	l    []api.Call
	s    *shelf.Shelf
	at   int
	does below
	now  api.Told
	told []api.Told
}

// made is the handle that one of its calls made.
func (p *teller) made(at int) uint64 {
	for _, x := range p.told {
		if x.At == at {
			return x.Done.Handle
		}
	}
	return 0
}

// step does a step: whether there was something to do.
func (p *teller) step(e layout.Env, made func(r api.Ref) uint64) bool {
	p.t.Helper()
	if p.at == len(p.l) {
		return false
	}
	c := p.l[p.at]
	if p.does == nil {
		h := c.Ref.Raw
		if c.Ref.Thread >= 0 {
			h = made(c.Ref)
		}
		p.does = p.does1(c, h)
		p.now = api.Told{Thread: p.me, At: p.at, Call: c, Handle: h, Began: e.M.Steps()}
	}
	if p.does.Step(e) {
		p.now.Done, p.now.Ended = p.does.Done(), e.M.Steps()
		p.told = append(p.told, p.now)
		p.does = nil
		p.at++
	}
	return true
}

// does1 is whoever of the layers below does a call.
func (p *teller) does1(c api.Call, h uint64) below {
	p.t.Helper()
	var err api.Errno
	var b below
	switch c.Kind {
	case 1:
		b, err = act.New(api.Act{Kind: api.ActAlloc, Size: c.Size})
	case 2:
		b, err = act.New(api.Act{Kind: api.ActFree, Handle: h})
	case 3:
		b, err = act.New(api.Act{Kind: api.ActRead, Handle: h, Index: c.Index})
	case 4:
		b, err = act.New(api.Act{Kind: api.ActWrite, Handle: h, Index: c.Index, Value: c.Value})
	case 5:
		b, err = act.New(api.Act{Kind: api.ActCas, Handle: h, Index: c.Index, Value: c.Value, Old: c.Old})
	case 6:
		b, err = p.s.New(api.ListHas, c.Key)
	case 7:
		b, err = p.s.New(api.ListAdd, c.Key)
	case 8:
		b, err = p.s.New(api.ListRemove, c.Key)
	}
	if err != api.OK {
		p.t.Fatalf("%+v: %v", c, err)
	}
	return b
}

// pair is a thread with calls, and the same one as the chapter tells it, in another memory.
type pair struct {
	t    *testing.T
	e    layout.Env
	twin *mem.Mem
	one  *worker.Worker
	two  *teller
}

func newPair(t *testing.T, c api.Config, lists, me int, l []api.Call) *pair {
	t.Helper()
	e, twin := entered(t, c, me), entered(t, c, me)
	return &pair{
		t: t, e: e, twin: twin.M,
		one: hired(t, me, l, shelved(t, e, lists)),
		two: &teller{t: t, me: me, l: slices.Clone(l), s: shelved(t, twin, lists)},
	}
}

// step does a step of both, and asks that it is the same, and one at most: whether there was something to do.
func (p *pair) step() bool {
	p.t.Helper()
	now := p.e.Now()
	did := p.one.Step(p.e, own(p.two.me, p.one))
	want := p.two.step(layout.Env{C: p.e.C, M: p.twin, Who: p.e.Who}, func(r api.Ref) uint64 {
		if r.Thread != p.two.me {
			return 0
		}
		return p.two.made(r.At)
	})
	if did != want {
		p.t.Fatalf("call %d: there was something to do: %v, not %v", p.two.at, did, want)
	}
	if p.e.Now() != p.twin.Steps() || p.e.Now() > now+1 || p.e.M.Last() != p.twin.Last() || !did && p.e.Now() != now {
		p.t.Fatalf("call %d: %d steps, the last one %v, not %d, %v", p.two.at, p.e.Now()-now, p.e.M.Last(), p.twin.Steps()-now, p.twin.Last())
	}
	p.wantSame()
	return did
}

// wantSame asks that both tell the same.
func (p *pair) wantSame() {
	p.t.Helper()
	if ended, idle := p.one.Ended(), p.one.Idle(); ended != (p.two.at == len(p.two.l)) || idle != (p.two.does == nil) {
		p.t.Fatalf("call %d: ended is %v, idle is %v", p.two.at, ended, idle)
	}
	if told := p.one.Told(); !slices.Equal(told, p.two.told) {
		p.t.Fatalf("told is %+v, not %+v", told, p.two.told)
	}
	for at := -3; at < len(p.two.l)+3; at++ {
		if got, want := p.one.Made(at), p.two.made(at); got != want {
			p.t.Fatalf("call %d made %#x, not %#x", at, got, want)
		}
	}
}

// store is the plain store: objects, and keys.
type store struct {
	objects map[uint64][]int
	keys    map[int]int
}

func newStore() *store {
	return &store{map[uint64][]int{}, map[int]int{}}
}

// short is whether something may be told in the place of an object, or of a key.
func short(e api.Errno) bool {
	return e == api.ErrHandles || e == api.ErrMemory
}

// once does a call at once: what must be told, besides its step.
func (s *store) once(x api.Told) api.Done {
	c := x.Call
	switch c.Kind {
	case 1:
		return s.make1(x)
	case 6:
		return api.Done{Value: s.keys[c.Key]}
	case 7:
		if short(x.Done.E) {
			return api.Done{E: x.Done.E}
		}
		was := s.keys[c.Key]
		s.keys[c.Key] = 1
		return api.Done{Value: 1 - was}
	case 8:
		was := s.keys[c.Key]
		delete(s.keys, c.Key)
		return api.Done{Value: was}
	}
	return s.reach(x)
}

// make1 makes an object by the handle that was told.
func (s *store) make1(x api.Told) api.Done {
	if x.Call.Size < 1 || x.Call.Size > 16 {
		return api.Done{E: api.ErrSize}
	}
	if short(x.Done.E) {
		return api.Done{E: x.Done.E}
	}
	h := x.Done.Handle
	if _, is := s.objects[h]; is || h == 0 {
		return api.Done{E: api.ErrHandles}
	}
	s.objects[h] = make([]int, x.Call.Size)
	return api.Done{Handle: h}
}

// reach does what is done to an object by its handle.
func (s *store) reach(x api.Told) api.Done {
	c := x.Call
	o, is := s.objects[x.Handle]
	if !is {
		return api.Done{E: api.ErrInvalid}
	}
	if c.Kind == 2 {
		delete(s.objects, x.Handle)
		return api.Done{}
	}
	if c.Index < 0 || c.Index >= len(o) {
		return api.Done{E: api.ErrIndex}
	}
	was := o[c.Index]
	if c.Kind == 5 && was != c.Old {
		return api.Done{E: api.ErrOther, Value: was}
	}
	if c.Kind != 3 {
		o[c.Index] = c.Value
	}
	return api.Done{Value: was}
}

// wantStore asks that the arena, at rest, has the plain store's objects and keys, and no other ones, and that nobody is pinned.
func wantStore(t *testing.T, e layout.Env, s *shelf.Shelf, want *store) {
	t.Helper()
	is := newStore()
	for i := range e.C.Slots {
		w := word.Slot(e.M.Peek(layout.Slot(e.C, i)))
		head := word.Head(e.M.Peek(w.Addr))
		if w.State != api.StateLive && w.State != api.StateMoving || head.Own {
			continue
		}
		l := make([]int, head.Size)
		for k := range l {
			l[k] = word.Cell(e.M.Peek(w.Addr + 1 + k)).Value
		}
		is.objects[uint64(i)|uint64(w.Gen)<<16] = l
	}
	if len(is.objects) != len(want.objects) {
		t.Fatalf("the objects are %v, not %v", is.objects, want.objects)
	}
	for h, l := range want.objects {
		if !slices.Equal(is.objects[h], l) {
			t.Fatalf("%#x is %v, not %v", h, is.objects[h], l)
		}
	}
	wantKeys(t, e, s, want)
	for i := range e.C.Threads {
		if w := e.M.Peek(layout.Pin(i)); w != 0 {
			t.Fatalf("thread %d is pinned, at %d", i, w)
		}
	}
}

// node is a node of a list, as the memory tells it.
type node struct {
	handle uint64
	key    int
	link   api.Link
}

// nodes is the nodes of a list, from its first one on.
func nodes(t *testing.T, e layout.Env, head uint64) []node {
	t.Helper()
	var l []node
	for h := head; h != 0; h = l[len(l)-1].link.Next {
		w := word.Slot(e.M.Peek(layout.Slot(e.C, int(h&(1<<16-1)))))
		cell := func(k int) int { return word.Cell(e.M.Peek(w.Addr + 1 + k)).Value }
		l = append(l, node{h, cell(0), list.Link(cell(1))})
		if w.Gen != int(h>>16) || len(l) > e.C.Slots {
			t.Fatalf("the list is %+v", l)
		}
	}
	return l
}

// wantKeys asks that the lists have the plain store's keys, each once.
func wantKeys(t *testing.T, e layout.Env, s *shelf.Shelf, want *store) {
	t.Helper()
	n := 0
	for _, head := range s.Heads() {
		for _, x := range nodes(t, e, head)[1:] {
			if x.link.Gone {
				continue
			}
			n++
			if want.keys[x.key] != 1 {
				t.Fatalf("key %d is not of %v", x.key, want.keys)
			}
		}
	}
	if n != len(want.keys) {
		t.Fatalf("%d keys are there, not %v", n, want.keys)
	}
}
