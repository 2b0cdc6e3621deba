package model_test

import (
	"math"
	"reflect"
	"slices"
	"testing"

	"footlocker/api"
	"footlocker/model"
)

// These are calls as they are told, that come to nothing but OK.
func makes(size int) api.Told { return api.Told{Call: api.Call{Kind: 1, Size: size}} }

func frees(handle uint64) api.Told {
	return api.Told{Call: api.Call{Kind: 2}, Handle: handle}
}

func reads(handle uint64, k int) api.Told {
	return api.Told{Call: api.Call{Kind: 3, Index: k}, Handle: handle}
}

func writes(handle uint64, k, value int) api.Told {
	return api.Told{Call: api.Call{Kind: 4, Index: k, Value: value}, Handle: handle}
}

func exchanges(handle uint64, k, old, value int) api.Told {
	return api.Told{Call: api.Call{Kind: 5, Index: k, Old: old, Value: value}, Handle: handle}
}

func has(key int) api.Told     { return api.Told{Call: api.Call{Kind: 6, Key: key}} }
func adds(key int) api.Told    { return api.Told{Call: api.Call{Kind: 7, Key: key}} }
func removes(key int) api.Told { return api.Told{Call: api.Call{Kind: 8, Key: key}} }

// made is an object of so many words that was made.
func made(size int, handle uint64) api.Told {
	return as(makes(size), api.Done{Handle: handle})
}

// as is a call that was told to come to that.
func as(x api.Told, d api.Done) api.Told {
	x.Done = d
	return x
}

// failed and valued are what a call came to.
func failed(e api.Errno) api.Done { return api.Done{E: e} }
func valued(value int) api.Done   { return api.Done{Value: value} }

// behind is the store behind calls, each of which was told as it comes.
func behind(t *testing.T, l ...api.Told) *model.Model {
	t.Helper()
	m := model.New()
	if m == nil {
		t.Fatal("there is none")
	}
	for _, x := range l {
		wantDo(t, m, x, true)
	}
	return m
}

// wantDo asks whether what was told is what comes of a call.
func wantDo(t *testing.T, m *model.Model, x api.Told, want bool) {
	t.Helper()
	objects, keys := m.Objects(), m.Keys()
	if m.Do(x) != want {
		t.Fatalf("with %v and %v: %+v: %v is not so", objects, keys, x, want)
	}
}

// object is one of the plain store.
func object(handle uint64, words ...int) api.Object {
	return api.Object{Handle: handle, Words: words}
}

// wantObjects asks which objects are there.
func wantObjects(t *testing.T, m *model.Model, want ...api.Object) {
	t.Helper()
	if l := m.Objects(); len(l)+len(want) > 0 && !reflect.DeepEqual(l, want) {
		t.Fatalf("objects are %v, not %v", l, want)
	}
}

// wantKeys asks which keys are there.
func wantKeys(t *testing.T, m *model.Model, want ...int) {
	t.Helper()
	if l := m.Keys(); !slices.Equal(l, want) {
		t.Fatalf("keys are %v, not %v", l, want)
	}
}

// wantSame asks that two stores have the same.
func wantSame(t *testing.T, m, want *model.Model) {
	t.Helper()
	wantObjects(t, m, want.Objects()...)
	wantKeys(t, m, want.Keys()...)
}

// odd is numbers that may be anywhere.
func odd() []int {
	return []int{math.MinInt, math.MinInt + 1, -1 << 40, -2, -1, 0, 1, 2, 3, 5, 15, 16, 17, 1<<16 + 1, 1<<30 - 1, 1 << 30, 1 << 40, math.MaxInt - 1, math.MaxInt}
}

// errors is all errors, and numbers that are none.
func errors() []api.Errno {
	return []api.Errno{api.OK, api.ErrInput, api.ErrAddress, api.ErrInvalid, api.ErrIndex, api.ErrSize, api.ErrMemory, api.ErrHandles, api.ErrOther, api.ErrFull, 10, api.ErrLine, api.ErrText, -1, math.MinInt, math.MaxInt}
}

// others is what might be told, each with something else than that.
func others(d api.Done) []api.Done {
	var l []api.Done
	for _, e := range errors() {
		l = append(l, api.Done{E: e, Handle: d.Handle, Value: d.Value}, api.Done{E: e})
	}
	for _, n := range odd() {
		l = append(l, api.Done{E: d.E, Handle: uint64(n), Value: d.Value}, api.Done{E: d.E, Handle: d.Handle, Value: n}, valued(n))
	}
	l = append(l, api.Done{E: d.E, Handle: d.Handle, Value: d.Value + 1}, api.Done{E: d.E, Handle: d.Handle, Value: d.Value - 1})
	return slices.DeleteFunc(l, func(x api.Done) bool { return x == d })
}

// moved is the same call, told of other threads and at other steps.
func moved(x api.Told) []api.Told {
	var l []api.Told
	for _, n := range odd() {
		for field := range 5 {
			y := x
			*[]*int{&y.Thread, &y.At, &y.Began, &y.Ended, &y.Done.Stamp}[field] = n
			l = append(l, y)
		}
		y := x
		y.Thread, y.At, y.Began, y.Ended, y.Done.Stamp = n, -n, n, n-1, n+1
		l = append(l, y)
	}
	return l
}

// wantComes asks what comes of a call behind others: it is told so, and not otherwise (but for what may be told in its place), and done all the same. It is the store behind it.
func wantComes(t *testing.T, ahead []api.Told, x api.Told, d api.Done, may ...api.Errno) *model.Model {
	t.Helper()
	x.Done = d
	want := behind(t, append(slices.Clone(ahead), x)...)
	for _, y := range moved(x) {
		m := behind(t, ahead...)
		wantDo(t, m, y, true)
		wantSame(t, m, want)
	}
	for _, other := range others(d) {
		if other == failed(other.E) && slices.Contains(may, other.E) {
			continue
		}
		m := behind(t, ahead...)
		wantDo(t, m, as(x, other), false)
		if !slices.Contains(may, other.E) {
			wantSame(t, m, want)
		}
	}
	return want
}

// mixed is a number below n, and what the next one is made of.
func mixed(x uint64, n int) (int, uint64) {
	x = x*6364136223846793005 + 1442695040888963407
	return int(x >> 33 % uint64(n)), x
}
