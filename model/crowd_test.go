package model_test

import (
	"cmp"
	"slices"
	"testing"

	"footlocker/api"
	"footlocker/compact"
	"footlocker/layout"
	"footlocker/model"
	"footlocker/shelf"
	"footlocker/worker"
)

// plain is the store as the chapter's words tell it, in lists that are gone through.
type plain struct {
	objects []api.Object
	keys    []int
}

// find is where an object stands; below 0: it lives not.
func (p *plain) find(handle uint64) int {
	return slices.IndexFunc(p.objects, func(o api.Object) bool { return o.Handle == handle })
}

// once does a call: whether it was told so.
func (p *plain) once(x api.Told) bool {
	d, c := x.Done, x.Call
	d.Stamp = 0
	inPlace := (c.Kind == 1 && c.Size >= 1 && c.Size <= 16 || c.Kind == 7) && slices.Contains(room(), d.E)
	at := slices.Index(p.keys, c.Key)
	there := valued(either(at >= 0, 1, 0))
	switch {
	case inPlace:
		return d == failed(d.E)
	case c.Kind == 1:
		return p.make1(c.Size, d)
	case c.Kind < 1 || c.Kind > 8:
		return false
	case c.Kind < 6:
		return d == p.reach(x.Handle, c)
	case c.Kind == 7 && at < 0:
		p.keys = append(p.keys, c.Key)
	case c.Kind == 8 && at >= 0:
		p.keys = slices.Delete(p.keys, at, at+1)
	}
	if c.Kind == 7 {
		there.Value = 1 - there.Value
	}
	return d == there
}

// make1 makes an object, as it was told.
func (p *plain) make1(size int, d api.Done) bool {
	if size < 1 || size > 16 {
		return d == failed(api.ErrSize)
	}
	if d.E != api.OK || d.Handle == 0 || p.find(d.Handle) >= 0 {
		return false
	}
	p.objects = append(p.objects, object(d.Handle, make([]int, size)...))
	return d.Value == 0
}

// reach does what is done to an object: what comes of it.
func (p *plain) reach(handle uint64, c api.Call) api.Done {
	at := p.find(handle)
	if at < 0 {
		return failed(api.ErrInvalid)
	}
	if c.Kind == 2 {
		p.objects = slices.Delete(p.objects, at, at+1)
		return api.Done{}
	}
	l := p.objects[at].Words
	if c.Index < 0 || c.Index >= len(l) {
		return failed(api.ErrIndex)
	}
	was := valued(l[c.Index])
	switch {
	case c.Kind == 4 || c.Kind == 5 && was.Value == c.Old:
		l[c.Index] = c.Value
	case c.Kind == 5:
		was.E = api.ErrOther
	}
	return was
}

// wantPlain asks that a store has what the plain one has.
func wantPlain(t *testing.T, m *model.Model, p *plain) {
	t.Helper()
	objects, keys := slices.Clone(p.objects), slices.Clone(p.keys)
	slices.SortFunc(objects, func(a, b api.Object) int { return cmp.Compare(a.Handle, b.Handle) })
	slices.Sort(keys)
	wantObjects(t, m, objects...)
	wantKeys(t, m, keys...)
}

// anyCall is a call of any kind, of one of a few handles and keys, and something that it might be told to come to.
func anyCall(x uint64) (api.Told, uint64) {
	var n [10]int
	for i := range n {
		n[i], x = mixed(x, 60)
	}
	handles := []uint64{0, 1, 9, 1 << 16, 1<<16 + 1, 1 << 40, 1<<64 - 1}
	sizes := []int{-1, 0, 1, 2, 3, 8, 16, 17}
	c := api.Call{Kind: n[0] % 10, Size: sizes[n[1]%8], Index: n[2]%6 - 1, Value: n[3] % 3, Old: n[4] % 3, Key: n[5]%7 - 1}
	d := api.Done{Stamp: n[2]}
	switch n[6] % 5 {
	case 0:
		d.E = errors()[n[7]%16]
	case 1:
		d.E, d.Value = api.ErrOther, n[8]%3
	case 2:
		d.Value = n[8] % 3
	}
	if c.Kind == 1 && n[6]%5 > 1 || n[6] == 59 {
		d.Handle = handles[n[8]%7]
	}
	return api.Told{Call: c, Handle: handles[n[9]%7], Done: d, Thread: n[4], At: n[5]}, x
}

func TestManyCallsInMixedOrders(t *testing.T) {
	is := map[int]int{}
	for seed := range 300 {
		m, p := model.New(), &plain{}
		x := uint64(seed)
		for range 300 {
			var c api.Told
			c, x = anyCall(x)
			want := p.once(c)
			wantDo(t, m, c, want)
			wantPlain(t, m, p)
			if want {
				is[c.Call.Kind]++
			}
		}
	}
	for kind := 1; kind <= 8; kind++ {
		if is[kind] < 200 {
			t.Errorf("of kind %d just %d calls were told as they come", kind, is[kind])
		}
	}
}

func TestHandlesAndKeysRise(t *testing.T) {
	// Whatever the order in which they came, with what went taken out.
	m := model.New()
	var handles []uint64
	var keys []int
	x := uint64(5)
	for len(keys) < 400 {
		var k int
		k, x = mixed(x, 1<<30)
		if slices.Contains(keys, k) {
			continue
		}
		keys = append(keys, k)
		// Handles beyond the greatest int are the greatest ones.
		handles = append(handles, uint64(k+1)<<34|uint64(k+1))
		wantDo(t, m, made(1, handles[len(handles)-1]), true)
		wantDo(t, m, as(adds(k), valued(1)), true)
	}
	for i := 0; i < len(keys); i += 3 {
		wantDo(t, m, frees(handles[i]), true)
		wantDo(t, m, as(removes(keys[i]), valued(1)), true)
		handles[i], keys[i] = 0, -1
	}
	slices.Sort(handles)
	slices.Sort(keys)
	handles, keys = handles[134:], keys[134:]
	wantKeys(t, m, keys...)
	var objects []api.Object
	for _, h := range handles {
		objects = append(objects, object(h, 0))
	}
	wantObjects(t, m, objects...)
	if handles[len(handles)-1] < 1<<63 || handles[0] > 1<<62 {
		t.Fatal(handles)
	}
}

// tells lets threads work in one arena of so many slots, with a compactor, whoever is picked: what was told of all their calls, in the order of the Stamps.
func tells(t *testing.T, x uint64, slots int, l [][]api.Call) []api.Told {
	t.Helper()
	c := api.Config{Threads: 3, Slots: slots, Chunks: 5, Words: 40, Gens: 99, Sparse: 600, Tries: 3}
	mem, err := layout.Fresh(c)
	if err != api.OK {
		t.Fatal(err)
	}
	s, err := shelf.Fresh(layout.Env{C: c, M: mem}, 2)
	if err != api.OK {
		t.Fatal(err)
	}
	seats := make([]*worker.Worker, len(l))
	for me := range l {
		if seats[me], err = worker.New(me, l[me], s); err != api.OK {
			t.Fatal(err)
		}
	}
	k := compact.New()
	made := func(r api.Ref) uint64 { return seats[r.Thread].Made(r.At) }
	for n := 0; slices.ContainsFunc(seats, func(w *worker.Worker) bool { return !w.Ended() }); n++ {
		var who int
		if who, x = mixed(x, len(l)+1); who == len(l) {
			k.Step(layout.Env{C: c, M: mem, Who: api.Compactor})
		} else {
			seats[who].Step(layout.Env{C: c, M: mem, Who: who}, made)
		}
		if n > 1<<20 {
			t.Fatal("they do not end")
		}
	}
	var all []api.Told
	for _, w := range seats {
		all = append(all, w.Told()...)
	}
	slices.SortStableFunc(all, func(a, b api.Told) int { return cmp.Compare(a.Done.Stamp, b.Done.Stamp) })
	return all
}

func TestWhatThreadsAreToldIsWhatThePlainStoreTells(t *testing.T) {
	errors := map[api.Errno]int{}
	for seed := range 40 {
		x := uint64(seed)
		l := make([][]api.Call, 3)
		for me := range l {
			for at := range 40 {
				var c api.Told
				var n int
				c, x = anyCall(x)
				n, x = mixed(x, 12)
				c.Call.Kind = min(max(c.Call.Kind, 1), 8)
				c.Call.Key = max(c.Call.Key, 0)
				c.Call.Ref = api.Ref{Thread: n % 3, At: at - n/3}
				l[me] = append(l[me], c.Call)
			}
		}
		m := model.New()
		for _, c := range tells(t, x, either(seed%2 == 0, 12, 40), l) {
			wantDo(t, m, c, true)
			errors[c.Done.E]++
		}
	}
	for _, e := range []api.Errno{api.OK, api.ErrInvalid, api.ErrIndex, api.ErrSize, api.ErrMemory, api.ErrHandles, api.ErrOther} {
		if errors[e] == 0 {
			t.Errorf("%v was never told, but %v", e, errors)
		}
	}
}
