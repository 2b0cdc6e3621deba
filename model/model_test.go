package model_test

import (
	"math"
	"slices"
	"testing"

	"footlocker/api"
	"footlocker/model"
)

// room is what may be told in the place of an object or a key.
func room() []api.Errno { return []api.Errno{api.ErrMemory, api.ErrHandles} }

func TestAFreshOneHasNothing(t *testing.T) {
	m := model.New()
	wantObjects(t, m)
	wantKeys(t, m)
	wantDo(t, m, as(has(0), valued(0)), true)
	wantDo(t, m, as(reads(0, 0), failed(api.ErrInvalid)), true)
}

func TestTheChaptersExample(t *testing.T) {
	m := model.New()
	wantDo(t, m, as(frees(0), failed(api.ErrInvalid)), true)
	wantDo(t, m, frees(0), false)
}

func TestKindsThatAreNone(t *testing.T) {
	ahead := []api.Told{made(2, 7), as(adds(4), valued(1))}
	want := behind(t, ahead...)
	m := behind(t, ahead...)
	for _, kind := range append(odd(), 9, 10, 11, -3, 256+1, 1<<32+1) {
		if kind >= 1 && kind <= 8 {
			continue
		}
		for _, d := range append(others(api.Done{}), api.Done{}, api.Done{Handle: 9}) {
			x := api.Told{Call: api.Call{Kind: kind, Size: 2, Index: 1, Value: 3, Key: 4}, Handle: 7, Done: d}
			wantDo(t, m, x, false)
		}
	}
	wantSame(t, m, want)
}

func TestKindsAreThoseOfCalls(t *testing.T) {
	m := model.New()
	for _, x := range []api.Told{
		{Call: api.Call{Kind: api.CallAlloc, Size: 2}, Done: api.Done{Handle: 7}},
		{Call: api.Call{Kind: api.CallWrite, Index: 1, Value: 5}, Handle: 7},
		{Call: api.Call{Kind: api.CallCas, Index: 1, Old: 5, Value: 6}, Handle: 7, Done: valued(5)},
		{Call: api.Call{Kind: api.CallRead, Index: 1}, Handle: 7, Done: valued(6)},
		{Call: api.Call{Kind: api.CallFree}, Handle: 7},
		{Call: api.Call{Kind: api.CallAdd, Key: 5}, Done: valued(1)},
		{Call: api.Call{Kind: api.CallHas, Key: 5}, Done: valued(1)},
		{Call: api.Call{Kind: api.CallRemove, Key: 5}, Done: valued(1)},
	} {
		wantDo(t, m, x, true)
	}
	wantObjects(t, m)
	wantKeys(t, m)
}

func TestSizesOfNoClass(t *testing.T) {
	ahead := []api.Told{made(2, 7)}
	for _, size := range append(odd(), -3, 0, 17, 18, 32, 33) {
		if size >= 1 && size <= 16 {
			continue
		}
		m := wantComes(t, ahead, makes(size), failed(api.ErrSize))
		wantObjects(t, m, object(7, 0, 0))
		wantDo(t, m, made(size, 9), false)
		wantObjects(t, m, object(7, 0, 0))
	}
}

func TestEachSizeIsMadeOfNoughts(t *testing.T) {
	for size := 1; size <= 16; size++ {
		ahead := []api.Told{made(2, 7), writes(7, 0, 1), writes(7, 1, 2)}
		m := behind(t, append(ahead, made(size, 9))...)
		wantObjects(t, m, object(7, 1, 2), object(9, make([]int, size)...))
		wantKeys(t, m)
		for _, y := range moved(made(size, 9)) {
			n := behind(t, ahead...)
			wantDo(t, n, y, true)
			wantSame(t, n, m)
		}
	}
}

func TestWhatMayBeToldInThePlaceOfAnObject(t *testing.T) {
	for size := 1; size <= 16; size++ {
		m := behind(t, made(2, 7))
		for _, e := range errors() {
			if e == api.OK {
				continue
			}
			may := slices.Contains(room(), e)
			for _, y := range moved(as(makes(size), failed(e))) {
				wantDo(t, m, y, may)
			}
			// With an error there is nothing else.
			wantDo(t, m, as(makes(size), api.Done{E: e, Handle: 9}), false)
			wantDo(t, m, as(makes(size), api.Done{E: e, Handle: 7}), false)
			wantDo(t, m, as(makes(size), api.Done{E: e, Value: 1}), false)
			wantObjects(t, m, object(7, 0, 0))
		}
		// Nor is that handle lost.
		wantDo(t, m, made(size, 9), true)
	}
}

func TestHandlesOfObjects(t *testing.T) {
	// Whether the number is one that slots make or not, what matters is whether one lives by it.
	for _, n := range odd() {
		handle := uint64(n)
		m := behind(t, made(2, 77), writes(77, 0, 5))
		wantDo(t, m, made(2, handle), handle != 0)
		if handle == 0 {
			wantObjects(t, m, object(77, 5, 0))
			continue
		}
		wantDo(t, m, as(writes(handle, 1, 6), valued(0)), true)
		for size := 1; size <= 16; size++ {
			wantDo(t, m, made(size, handle), false)
			wantDo(t, m, made(size, 77), false)
		}
		wantDo(t, m, as(reads(handle, 1), valued(6)), true)
		wantDo(t, m, as(reads(77, 0), valued(5)), true)
		if len(m.Objects()) != 2 {
			t.Fatal(m.Objects())
		}
		// One that was let go lives no more: it is one by which none lives.
		wantDo(t, m, frees(handle), true)
		wantObjects(t, m, object(77, 5, 0))
		wantDo(t, m, made(1, handle), true)
		wantDo(t, m, as(reads(handle, 0), valued(0)), true)
		wantDo(t, m, as(reads(handle, 1), failed(api.ErrIndex)), true)
	}
}

func TestAnObjectHasNoValue(t *testing.T) {
	// It is told otherwise than it comes, though it is made.
	for _, n := range odd() {
		m := model.New()
		wantDo(t, m, as(makes(2), api.Done{Handle: 9, Value: n}), n == 0)
		wantObjects(t, m, object(9, 0, 0))
	}
}

func TestTheHandleOfTheCallDoesNotMatterToOneThatIsMade(t *testing.T) {
	m := behind(t, made(2, 7))
	x := made(3, 9)
	x.Handle = 7
	wantDo(t, m, x, true)
	x = as(makes(3), api.Done{})
	x.Handle = 11
	wantDo(t, m, x, false)
	x = made(0, 0)
	x.Handle, x.Done = 11, failed(api.ErrSize)
	wantDo(t, m, x, true)
	wantObjects(t, m, object(7, 0, 0), object(9, 0, 0, 0))
}

// reached is a call of each kind that reaches an object.
func reached(handle uint64, k int) []api.Told {
	return []api.Told{reads(handle, k), writes(handle, k, 8), exchanges(handle, k, 0, 8), exchanges(handle, k, 1, 8)}
}

func TestHandlesByWhichNoneLives(t *testing.T) {
	ahead := []api.Told{made(2, 7), made(16, 9), writes(9, 3, 5), made(2, 1<<16), frees(7)}
	for _, handle := range []uint64{0, 1, 7, 8, 10, 1<<16 + 1, 1<<32 + 9, 1<<63 + 9, math.MaxUint64} {
		for _, k := range []int{0, 1, 3, -1, 16, math.MinInt, math.MaxInt} {
			// That comes ahead of an index that is none.
			for _, x := range append(reached(handle, k), frees(handle)) {
				m := wantComes(t, ahead, x, failed(api.ErrInvalid))
				wantSame(t, m, behind(t, ahead...))
			}
		}
	}
}

func TestOneThatIsLetGo(t *testing.T) {
	ahead := []api.Told{made(2, 7), made(3, 9), writes(9, 1, 4), as(adds(7), valued(1))}
	m := wantComes(t, ahead, frees(7), api.Done{})
	wantObjects(t, m, object(9, 0, 4, 0))
	wantKeys(t, m, 7)
	for _, x := range append(reached(7, 0), frees(7)) {
		wantDo(t, m, as(x, failed(api.ErrInvalid)), true)
	}
	wantDo(t, m, as(reads(9, 1), valued(4)), true)
	wantDo(t, m, frees(9), true)
	wantObjects(t, m)
}

func TestIndicesOfEachSize(t *testing.T) {
	for size := 1; size <= 16; size++ {
		ahead := []api.Told{made(size, 9), made(16, 7)}
		for _, k := range append(odd(), size-1, size, size+1, -size) {
			if k >= 0 && k < size {
				continue
			}
			for _, x := range reached(9, k) {
				m := wantComes(t, ahead, x, failed(api.ErrIndex))
				wantSame(t, m, behind(t, ahead...))
			}
		}
		m := behind(t, ahead...)
		want := make([]int, size)
		for k := range size {
			wantDo(t, m, as(reads(9, k), valued(0)), true)
			wantDo(t, m, as(writes(9, k, 20+k), valued(0)), true)
			want[k] = 20 + k
			wantObjects(t, m, object(7, make([]int, 16)...), object(9, want...))
		}
	}
}

func TestRead(t *testing.T) {
	ahead := []api.Told{made(2, 7), writes(7, 0, 5), writes(7, 1, 6), made(2, 9)}
	for k, value := range []int{5, 6} {
		x := reads(7, k)
		x.Call.Value, x.Call.Old = 9, 3
		m := wantComes(t, ahead, x, valued(value))
		wantSame(t, m, behind(t, ahead...))
	}
}

func TestWrite(t *testing.T) {
	for _, value := range append(odd(), 0, 1, 5, 1<<40-1) {
		ahead := []api.Told{made(2, 7), writes(7, 0, 5), writes(7, 1, 6), made(2, 9)}
		x := writes(7, 1, value)
		x.Call.Old = 3
		m := wantComes(t, ahead, x, valued(6))
		wantObjects(t, m, object(7, 5, value), object(9, 0, 0))
		m = wantComes(t, append(ahead, as(x, valued(6))), writes(7, 1, 1), valued(value))
		wantObjects(t, m, object(7, 5, 1), object(9, 0, 0))
	}
}

func TestCas(t *testing.T) {
	for _, old := range append(odd(), 5, 6, 1<<40-1) {
		ahead := []api.Told{made(2, 7), writes(7, 0, 5), writes(7, 1, 6), made(2, 9)}
		d, want := valued(6), 8
		if old != 6 {
			d, want = api.Done{E: api.ErrOther, Value: 6}, 6
		}
		m := wantComes(t, ahead, exchanges(7, 1, old, 8), d)
		wantObjects(t, m, object(7, 5, want), object(9, 0, 0))
		// And where it lays what is there.
		m = wantComes(t, ahead, exchanges(7, 1, old, 6), d)
		wantObjects(t, m, object(7, 5, 6), object(9, 0, 0))
	}
	wantObjects(t, behind(t, made(1, 7), exchanges(7, 0, 0, 3)), object(7, 3))
}

func TestKeys(t *testing.T) {
	for _, key := range append(odd(), 4, 6) {
		if key == 5 {
			continue
		}
		ahead := []api.Told{as(adds(5), valued(1)), made(2, 5)}
		with := append(slices.Clone(ahead), as(adds(key), valued(1)))
		both := []int{min(key, 5), max(key, 5)}
		wantKeys(t, wantComes(t, ahead, has(key), valued(0)), 5)
		wantKeys(t, wantComes(t, ahead, removes(key), valued(0)), 5)
		wantKeys(t, wantComes(t, ahead, adds(key), valued(1), room()...), both...)
		wantKeys(t, wantComes(t, with, has(key), valued(1)), both...)
		wantKeys(t, wantComes(t, with, adds(key), valued(0), room()...), both...)
		wantKeys(t, wantComes(t, with, has(5), valued(1)), both...)
		m := wantComes(t, with, removes(key), valued(1))
		wantKeys(t, m, 5)
		wantObjects(t, m, object(5, 0, 0))
		wantDo(t, m, as(has(key), valued(0)), true)
		wantDo(t, m, as(removes(key), valued(0)), true)
		wantDo(t, m, as(adds(key), valued(1)), true)
		wantKeys(t, m, both...)
	}
}

func TestWhatMayBeToldInThePlaceOfAKey(t *testing.T) {
	m := behind(t, as(adds(5), valued(1)))
	for _, key := range []int{3, 5, 7} {
		for _, e := range room() {
			for _, y := range moved(as(adds(key), failed(e))) {
				wantDo(t, m, y, true)
			}
			for _, n := range odd() {
				// With an error there is nothing else.
				wantDo(t, m, as(adds(key), api.Done{E: e, Value: n}), n == 0)
				wantDo(t, m, as(adds(key), api.Done{E: e, Handle: uint64(n)}), n == 0)
			}
			wantDo(t, m, as(has(key), failed(e)), false)
			wantKeys(t, m, 5)
		}
	}
	m = model.New()
	wantDo(t, m, as(adds(5), failed(api.ErrMemory)), true)
	wantKeys(t, m)
	wantDo(t, m, as(adds(5), valued(1)), true)
	wantKeys(t, m, 5)
}

// TestWhatACallDoesNotAsk asks that what a kind does not need does not matter to it.
func TestWhatACallDoesNotAsk(t *testing.T) {
	ahead := []api.Told{made(2, 7), writes(7, 1, 6), as(adds(5), valued(1))}
	for _, n := range odd() {
		ref := api.Ref{Thread: n, At: n, Raw: uint64(n)}
		for _, x := range []api.Told{
			{Call: api.Call{Kind: 1, Size: 2, Index: n, Value: n, Old: n, Key: n}, Handle: uint64(n), Done: api.Done{Handle: 9}},
			{Call: api.Call{Kind: 2, Size: n, Index: n, Value: n, Old: n, Key: n}, Handle: 7},
			{Call: api.Call{Kind: 3, Size: n, Index: 1, Value: n, Old: n, Key: n}, Handle: 7, Done: valued(6)},
			{Call: api.Call{Kind: 4, Size: n, Index: 1, Value: 3, Old: n, Key: n}, Handle: 7, Done: valued(6)},
			{Call: api.Call{Kind: 5, Size: n, Index: 1, Value: 3, Old: 6, Key: n}, Handle: 7, Done: valued(6)},
			{Call: api.Call{Kind: 6, Size: n, Index: n, Value: n, Old: n, Key: 5}, Handle: uint64(n), Done: valued(1)},
			{Call: api.Call{Kind: 7, Size: n, Index: n, Value: n, Old: n, Key: 3}, Handle: uint64(n), Done: valued(1)},
			{Call: api.Call{Kind: 8, Size: n, Index: n, Value: n, Old: n, Key: 5}, Handle: uint64(n), Done: valued(1)},
		} {
			x.Call.Ref = ref
			m := behind(t, append(slices.Clone(ahead), x)...)
			x.Call = api.Call{Kind: x.Call.Kind, Size: either(x.Call.Kind == 1, 2, 0), Index: x.Call.Index, Value: x.Call.Value, Old: x.Call.Old, Key: x.Call.Key}
			wantSame(t, m, behind(t, append(slices.Clone(ahead), x)...))
		}
	}
}

// either is one number or the other one.
func either(is bool, one, other int) int {
	if is {
		return one
	}
	return other
}
