package word_test

import (
	"go/parser"
	"go/token"
	"math"
	"os"
	"strings"
	"testing"

	"footlocker/api"
	"footlocker/word"
)

// all is what every call of the package answers to one number and one word.
type all struct {
	handle, slot, chunk, head, cell, top uint64
	h                                    api.Handle
	is                                   bool
	s                                    api.Slot
	c                                    api.Chunk
	o                                    api.Head
	x                                    api.Cell
	first, count                         int
}

func ask(n int, w uint64) all {
	var a all
	a.handle = word.PutHandle(api.Handle{Slot: n, Gen: n})
	a.slot = word.PutSlot(api.Slot{State: n, Addr: n, Gen: n, Ver: n})
	a.chunk = word.PutChunk(api.Chunk{State: n, Class: n, Used: n, Stamp: n})
	a.head = word.PutHead(api.Head{Kind: n, Size: n, Slot: n, Gen: n, Own: n%2 != 0})
	a.cell = word.PutCell(api.Cell{Value: n, Frozen: n%2 != 0, Ver: n})
	a.top = word.PutTop(n, n)
	a.h, a.is = word.Handle(w)
	a.s = word.Slot(w)
	a.c = word.Chunk(w)
	a.o = word.Head(w)
	a.x = word.Cell(w)
	a.first, a.count = word.Top(w)
	return a
}

func TestNoCallPanicsAndAnswersStayTheSame(t *testing.T) {
	l := words()
	first := make([]all, 0, len(l))
	numbers := append(edges(), math.MinInt+1, math.MaxInt-1)
	for i, w := range l {
		first = append(first, ask(numbers[i%len(numbers)], w))
	}
	for i := len(l) - 1; i >= 0; i-- {
		if got := ask(numbers[i%len(numbers)], l[i]); got != first[i] {
			t.Errorf("%#x: %v, then %v", l[i], first[i], got)
		}
	}
}

func TestStandsOnApiAlone(t *testing.T) {
	files, err := os.ReadDir(".")
	if err != nil {
		t.Fatal(err)
	}
	for _, f := range files {
		name := f.Name()
		if !strings.HasSuffix(name, ".go") || strings.HasSuffix(name, "_test.go") {
			continue
		}
		parsed, err := parser.ParseFile(token.NewFileSet(), name, nil, parser.ImportsOnly)
		if err != nil {
			t.Fatal(err)
		}
		for _, i := range parsed.Imports {
			if i.Path.Value != `"footlocker/api"` {
				t.Errorf("%s imports %s", name, i.Path.Value)
			}
		}
	}
}
