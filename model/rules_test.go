package model_test

import (
	"go/parser"
	"go/token"
	"os"
	"reflect"
	"slices"
	"strings"
	"testing"

	"footlocker/api"
	"footlocker/model"
)

func TestANilOneAndOneThatNobodyMade(t *testing.T) {
	for _, m := range []*model.Model{nil, {}} {
		for kind := -1; kind <= 10; kind++ {
			for _, d := range append(others(api.Done{}), api.Done{}, api.Done{Handle: 9}) {
				for _, size := range []int{0, 2} {
					if m.Do(api.Told{Call: api.Call{Kind: kind, Size: size}, Done: d}) {
						t.Fatalf("kind %d was told %+v", kind, d)
					}
				}
			}
		}
		if len(m.Objects()) != 0 || len(m.Keys()) != 0 {
			t.Fatal(m.Objects(), m.Keys())
		}
	}
}

func TestAnyNumbers(t *testing.T) {
	// Whatever is told, none panics, and what is there is as the chapter's words tell it.
	x := uint64(99)
	m, p := model.New(), &plain{}
	for range 30000 {
		var n [7]int
		l := odd()
		for i := range n {
			n[i], x = mixed(x, len(l))
			n[i] = l[n[i]]
		}
		var kind, e int
		kind, x = mixed(x, 10)
		e, x = mixed(x, len(errors()))
		c := api.Told{
			Call:   api.Call{Kind: kind, Size: n[0], Index: n[1], Value: n[2], Old: n[3], Key: n[4]},
			Handle: uint64(n[5]),
			Done:   api.Done{E: errors()[e], Handle: uint64(n[6]), Value: n[3], Stamp: n[4]},
		}
		if c.Call.Kind != 1 {
			c.Done.Handle = 0
		}
		wantDo(t, m, c, p.once(c))
		wantPlain(t, m, p)
	}
}

// filled is a store with some objects and keys.
func filled(t *testing.T) *model.Model {
	t.Helper()
	return behind(t, made(2, 7), writes(7, 0, 5), made(3, 9), made(1, 11), as(adds(4), valued(1)), as(adds(2), valued(1)), as(adds(6), valued(1)))
}

func TestWhatIsAnsweredIsTheCallersOwn(t *testing.T) {
	m := filled(t)
	for range 2 {
		objects, keys := m.Objects(), m.Keys()
		for i := range objects {
			for k := range objects[i].Words {
				objects[i].Words[k] = 99
			}
			objects[i].Words = append(objects[i].Words, 98)
			objects[i].Handle = 97
		}
		for i := range keys {
			keys[i] = 96
		}
		keys = append(keys, 95)
		objects = append(objects, object(94))
		wantSame(t, m, filled(t))
		if len(objects) != 4 || len(keys) != 4 {
			t.Fatal(objects, keys)
		}
	}
	// Nor does what is added to one object's words reach another one's.
	a, b := m.Objects(), m.Objects()
	for i := range a {
		a[i].Words = append(a[i].Words, 1)
		b[i].Words = append(b[i].Words, 2)
	}
	if a[0].Words[2] != 1 || b[0].Words[2] != 2 || a[1].Words[0] != 0 || b[2].Words[0] != 0 {
		t.Fatal(a, b)
	}
}

func TestWhatWasAnsweredStays(t *testing.T) {
	m := filled(t)
	objects, keys := m.Objects(), m.Keys()
	for _, x := range []api.Told{as(writes(7, 0, 8), valued(5)), writes(9, 2, 3), frees(11), made(2, 1), as(removes(2), valued(1)), as(adds(1), valued(1))} {
		wantDo(t, m, x, true)
	}
	wantObjects(t, m, object(1, 0, 0), object(7, 8, 0), object(9, 0, 0, 3))
	wantKeys(t, m, 1, 4, 6)
	if want := filled(t); !reflect.DeepEqual(objects, want.Objects()) || !slices.Equal(keys, want.Keys()) {
		t.Fatal(objects, keys)
	}
}

func TestToAskChangesNothing(t *testing.T) {
	m := filled(t)
	for range 5 {
		wantSame(t, m, filled(t))
	}
}

func TestEachOneIsItsOwn(t *testing.T) {
	a, b := model.New(), model.New()
	wantDo(t, a, made(2, 7), true)
	wantDo(t, a, as(adds(5), valued(1)), true)
	wantObjects(t, b)
	wantKeys(t, b)
	wantDo(t, b, made(3, 7), true)
	wantDo(t, b, as(adds(5), valued(1)), true)
	wantDo(t, b, frees(7), true)
	wantObjects(t, a, object(7, 0, 0))
	wantKeys(t, a, 5)
}

func TestTheSameCallsTellTheSame(t *testing.T) {
	play := func() ([]bool, []api.Object, []int) {
		m := model.New()
		var l []bool
		x := uint64(3)
		for range 2000 {
			var c api.Told
			c, x = anyCall(x)
			l = append(l, m.Do(c))
		}
		return l, m.Objects(), m.Keys()
	}
	l, objects, keys := play()
	for range 5 {
		if m, o, k := play(); !slices.Equal(m, l) || !reflect.DeepEqual(o, objects) || !slices.Equal(k, keys) {
			t.Error("it is told otherwise")
		}
	}
}

func TestStandsOnThoseBelowAlone(t *testing.T) {
	files, err := os.ReadDir(".")
	if err != nil {
		t.Fatal(err)
	}
	below := []string{`"footlocker/api"`, `"footlocker/layout"`, `"maps"`, `"slices"`}
	for _, f := range files {
		name := f.Name()
		if !strings.HasSuffix(name, ".go") || strings.HasSuffix(name, "_test.go") {
			continue
		}
		parsed, err := parser.ParseFile(token.NewFileSet(), name, nil, parser.ImportsOnly)
		if err != nil {
			t.Fatal(err)
		}
		for _, i := range parsed.Imports {
			if !slices.Contains(below, i.Path.Value) {
				t.Errorf("%s imports %s", name, i.Path.Value)
			}
		}
	}
}
