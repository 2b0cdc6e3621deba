package layout_test

import (
	"go/parser"
	"go/token"
	"math"
	"os"
	"strings"
	"testing"

	"footlocker/api"
	"footlocker/layout"
)

// odd is numbers of all kinds, most of which may not be.
func odd() []int {
	return []int{math.MinInt, math.MinInt + 1, -1 << 62, -1 << 32, -65536, -256, -65, -17, -5, -2, -1, 0, 1, 2, 4, 8, 16, 17, 64, 65, 257, 65537, 1 << 20, 1 << 32, 1 << 61, 1 << 62, math.MaxInt - 1, math.MaxInt}
}

// oddArenas is arenas whose numbers are of all kinds, one at a time, two at a time, and all at once.
func oddArenas() []api.Config {
	var l []api.Config
	for _, n := range odd() {
		l = append(l, api.Config{Threads: n, Slots: n, Chunks: n, Words: n, Gens: n, Sparse: n, Tries: n})
		for i, f := range fields() {
			c := middle()
			f.lay(&c, n)
			l = append(l, c)
			for _, g := range fields()[i+1:] {
				for _, k := range odd() {
					two := c
					g.lay(&two, k)
					l = append(l, two)
				}
			}
		}
	}
	return l
}

// answers is what the calls that tell places answer to one arena and one number.
type answers struct {
	check                                                  bool
	open, pin, slot, chunk, base, length, of, class, rooms int
}

func ask(c api.Config, n int) answers {
	return answers{
		check:  layout.Check(c),
		open:   layout.Open(n),
		pin:    layout.Pin(n),
		slot:   layout.Slot(c, n),
		chunk:  layout.Chunk(c, n),
		base:   layout.Base(c, n),
		length: layout.Len(c),
		of:     layout.Of(c, n),
		class:  layout.Class(n),
		rooms:  layout.Room(n),
	}
}

func TestNoCallPanicsAndAnswersStayTheSame(t *testing.T) {
	for _, c := range oddArenas() {
		for _, n := range odd() {
			first := ask(c, n)
			if again := ask(c, n); again != first {
				t.Fatalf("%v, %d: %v, then %v", c, n, first, again)
			}
			if first.of < -1 || first.of >= max(c.Chunks, 0) {
				t.Fatalf("%v: word %d is of chunk %d", c, n, first.of)
			}
		}
		m, e := layout.Fresh(c)
		if layout.Check(c) != (e == api.OK) || (m == nil) != (e == api.ErrInput) {
			t.Fatalf("Fresh(%v): error %d", c, e)
		}
	}
}

// plain is an arena's memory as the chapter's words tell it: words, and how many steps were done.
type plain struct {
	words []uint64
	now   int
	last  api.Touch
}

// act is one call of a step: its kind, and what it is given.
type act struct {
	kind, a, who, d int
	old, w          uint64
}

// answer is what one call told, whichever it was.
type answer struct {
	w  uint64
	is bool
}

func (p *plain) do(x act) answer {
	if x.a < 0 || x.a >= len(p.words) {
		return answer{}
	}
	was := p.words[x.a]
	var told answer
	switch x.kind {
	case 0:
		told.w = was
	case 1:
		p.words[x.a] = x.w
	case 2:
		if told.is = was == x.old; told.is {
			p.words[x.a] = x.w
		}
	default:
		p.words[x.a] += uint64(x.d)
	}
	p.now++
	p.last = api.Touch{Addr: x.a, Who: x.who, Changed: p.words[x.a] != was}
	return told
}

func do(e layout.Env, x act) answer {
	e.Who = x.who
	var told answer
	switch x.kind {
	case 0:
		told.w = e.Load(x.a)
	case 1:
		e.Store(x.a, x.w)
	case 2:
		told.is = e.Cas(x.a, x.old, x.w)
	default:
		e.Add(x.a, x.d)
	}
	return told
}

// acts is calls that are mixed by a rule; the words are few, so that often what should be there is there.
func acts(seed uint64, n, many int) []act {
	words := []uint64{0, 1, 2, 1 << 23, all, 1 << 63}
	x := seed
	next := func(below int) int {
		x = x*6364136223846793005 + 1442695040888963407
		return int(x >> 33 % uint64(below))
	}
	l := make([]act, 0, many)
	for range many {
		l = append(l, act{kind: next(4), a: next(n+2) - 1, who: next(5) - 1, d: next(5) - 2, old: words[next(len(words))], w: words[next(len(words))]})
	}
	return l
}

func TestMixedStepsTellWhatTheChapterTells(t *testing.T) {
	for seed := range uint64(20) {
		e := entered(t, 0)
		p := &plain{words: begin(e.C), now: e.Now(), last: e.M.Last()}
		for i, x := range acts(seed, e.M.Len(), 1000) {
			want := p.do(x)
			if got := do(e, x); got != want || e.Now() != p.now || e.M.Last() != p.last {
				t.Fatalf("seed %d, call %d, %v: %v, step %d, %v, not %v, step %d, %v", seed, i, x, got, e.Now(), e.M.Last(), want, p.now, p.last)
			}
		}
		for a, w := range p.words {
			if e.M.Peek(a) != w {
				t.Fatalf("seed %d: word %d is %#x, not %#x", seed, a, e.M.Peek(a), w)
			}
		}
	}
}

func TestStandsOnApiMemAndWordAlone(t *testing.T) {
	files, err := os.ReadDir(".")
	if err != nil {
		t.Fatal(err)
	}
	for _, f := range files {
		name := f.Name()
		if !strings.HasSuffix(name, ".go") || strings.HasSuffix(name, "_test.go") {
			continue
		}
		parsed, err := parser.ParseFile(token.NewFileSet(), name, nil, parser.ImportsOnly)
		if err != nil {
			t.Fatal(err)
		}
		for _, i := range parsed.Imports {
			switch i.Path.Value {
			case `"footlocker/api"`, `"footlocker/mem"`, `"footlocker/word"`:
			default:
				t.Errorf("%s imports %s", name, i.Path.Value)
			}
		}
	}
}
