package mem_test

import (
	"go/parser"
	"go/token"
	"os"
	"strings"
	"testing"

	"footlocker/api"
	"footlocker/mem"
)

// plain is the chapter's words read one by one, with every step kept: what a memory must tell is looked up in it.
type plain struct {
	n    int
	done []did
}

// did is a step: what is noted of it, and the word behind it.
type did struct {
	touch api.Touch
	word  uint64
}

func (p *plain) word(a int) uint64 {
	for i := len(p.done) - 1; i >= 0; i-- {
		if p.done[i].touch.Addr == a {
			return p.done[i].word
		}
	}
	return 0
}

func (p *plain) when(a int) int {
	for i := len(p.done) - 1; i >= 0; i-- {
		if p.done[i].touch.Addr == a && p.done[i].touch.Changed {
			return i + 1
		}
	}
	return 0
}

func (p *plain) last() api.Touch {
	if len(p.done) == 0 {
		return api.Touch{}
	}
	return p.done[len(p.done)-1].touch
}

func (p *plain) step(a, who int, w uint64) {
	p.done = append(p.done, did{api.Touch{Addr: a, Who: who, Changed: p.word(a) != w}, w})
}

// answer is what one call told, whichever it was.
type answer struct {
	w  uint64
	is bool
	e  api.Errno
}

// act is one call of a step: its kind, and what it is given.
type act struct {
	kind, a, who int
	old, w       uint64
}

func (p *plain) do(x act) answer {
	if x.a < 0 || x.a >= p.n {
		return answer{e: api.ErrAddress}
	}
	was := p.word(x.a)
	switch {
	case x.kind == 0:
		p.step(x.a, x.who, was)
		return answer{w: was}
	case x.kind == 1:
		p.step(x.a, x.who, x.w)
		return answer{}
	case x.kind == 2 && was == x.old:
		p.step(x.a, x.who, x.w)
		return answer{is: true}
	case x.kind == 2:
		p.step(x.a, x.who, was)
		return answer{}
	default:
		p.step(x.a, x.who, was+x.w)
		return answer{w: was}
	}
}

func do(m *mem.Mem, x act) answer {
	m.By(x.who)
	var got answer
	switch x.kind {
	case 0:
		got.w, got.e = m.Load(x.a)
	case 1:
		got.e = m.Store(x.a, x.w)
	case 2:
		got.is, got.e = m.Cas(x.a, x.old, x.w)
	default:
		got.w, got.e = m.Add(x.a, x.w)
	}
	return got
}

// acts is calls that are mixed by a rule; the words are few, so that often what should be there is there.
func acts(seed uint64, n, many int) []act {
	words := []uint64{0, 1, 2, ^uint64(0), 1 << 63, 1<<63 - 1}
	x := seed
	next := func(below int) int {
		x = x*6364136223846793005 + 1442695040888963407
		return int(x >> 33 % uint64(below))
	}
	l := make([]act, 0, many)
	for range many {
		l = append(l, act{kind: next(4), a: next(n+2) - 1, who: next(5) - 1, old: words[next(len(words))], w: words[next(len(words))]})
	}
	return l
}

func TestMixedCallsTellWhatTheChapterTells(t *testing.T) {
	for seed := range uint64(20) {
		n := int(seed)%4 + 1
		m, p := made(t, n), &plain{n: n}
		for i, x := range acts(seed, n, 200) {
			want := p.do(x)
			if got := do(m, x); got != want {
				t.Fatalf("seed %d, call %d, %v: %v, not %v", seed, i, x, got, want)
			}
			wantStep(t, m, len(p.done), p.last())
			for a := -1; a <= n; a++ {
				wantWord(t, m, a, p.word(a), p.when(a))
			}
			if t.Failed() {
				t.Fatalf("seed %d, behind call %d, %v", seed, i, x)
			}
		}
	}
}

func TestSameCallsAnswerTheSame(t *testing.T) {
	one, other := made(t, 3), made(t, 3)
	for i, x := range acts(99, 3, 500) {
		a, b := do(one, x), do(other, x)
		if a != b || one.Last() != other.Last() || one.Steps() != other.Steps() {
			t.Fatal(i, x, a, b)
		}
	}
}

func TestStandsOnApiAlone(t *testing.T) {
	files, err := os.ReadDir(".")
	if err != nil {
		t.Fatal(err)
	}
	for _, f := range files {
		name := f.Name()
		if !strings.HasSuffix(name, ".go") || strings.HasSuffix(name, "_test.go") {
			continue
		}
		parsed, err := parser.ParseFile(token.NewFileSet(), name, nil, parser.ImportsOnly)
		if err != nil {
			t.Fatal(err)
		}
		for _, i := range parsed.Imports {
			if i.Path.Value != `"footlocker/api"` {
				t.Errorf("%s imports %s", name, i.Path.Value)
			}
		}
	}
}
