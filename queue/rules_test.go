package queue_test

import (
	"go/ast"
	"go/parser"
	"go/token"
	"os"
	"strings"
	"testing"

	"footlocker/api"
	"footlocker/queue"
)

// plain is the chapter's words read one by one: what waits is a list.
type plain struct {
	most  int
	waits []int
}

// act is one call: a number that is put in, or (pop) the first that is taken.
type act struct {
	pop bool
	n   int
}

// answer is what one call told, whichever it was.
type answer struct {
	n  int
	is bool
	e  api.Errno
}

func (p *plain) do(x act) answer {
	switch {
	case x.pop && len(p.waits) == 0:
		return answer{}
	case x.pop:
		n := p.waits[0]
		p.waits = p.waits[1:]
		return answer{n: n, is: true}
	case len(p.waits) == p.most:
		return answer{e: api.ErrFull}
	default:
		p.waits = append(p.waits, x.n)
		return answer{}
	}
}

func do(q *queue.Queue, x act) answer {
	var got answer
	if x.pop {
		got.n, got.is = q.Pop()
	} else {
		got.e = q.Push(x.n)
	}
	return got
}

// acts is calls that are mixed by a rule, in spells of more pushes and of more pops, so that a queue is often full and often empty.
func acts(seed uint64, most, many int) []act {
	x := seed
	next := func(below int) int {
		x = x*6364136223846793005 + 1442695040888963407
		return int(x >> 33 % uint64(below))
	}
	l := make([]act, 0, many)
	pops := 1
	for i := range many {
		if i%(2*most+3) == 0 {
			pops = 4 - pops
		}
		l = append(l, act{pop: next(4) < pops, n: next(7) - 3})
	}
	return l
}

func TestMixedCallsTellWhatTheChapterTells(t *testing.T) {
	for _, most := range []int{1, 2, 3, 4, 9, 31, api.MostQueue} {
		for seed := range uint64(10) {
			q, p := made(t, most), &plain{most: most}
			for i, x := range acts(seed, most, 12*most+50) {
				want := p.do(x)
				if got := do(q, x); got != want {
					t.Fatalf("room %d, seed %d, call %d, %v: %v, not %v", most, seed, i, x, got, want)
				}
				wantCount(t, q, len(p.waits), most-len(p.waits))
				if t.Failed() {
					t.Fatalf("room %d, seed %d, behind call %d, %v", most, seed, i, x)
				}
			}
		}
	}
}

func TestSameCallsAnswerTheSame(t *testing.T) {
	one, other := made(t, 3), made(t, 3)
	for i, x := range acts(99, 3, 500) {
		a, b := do(one, x), do(other, x)
		if a != b || one.Len() != other.Len() || one.Room() != other.Room() {
			t.Fatal(i, x, a, b)
		}
	}
}

// parsed is the package's own files.
func parsed(t *testing.T) map[string]*ast.File {
	t.Helper()
	files, err := os.ReadDir(".")
	if err != nil {
		t.Fatal(err)
	}
	all := map[string]*ast.File{}
	for _, f := range files {
		name := f.Name()
		if !strings.HasSuffix(name, ".go") || strings.HasSuffix(name, "_test.go") {
			continue
		}
		if all[name], err = parser.ParseFile(token.NewFileSet(), name, nil, 0); err != nil {
			t.Fatal(err)
		}
	}
	return all
}

func TestStandsOnApiAlone(t *testing.T) {
	for name, f := range parsed(t) {
		for _, i := range f.Imports {
			if i.Path.Value != `"footlocker/api"` {
				t.Errorf("%s imports %s", name, i.Path.Value)
			}
		}
	}
}

// Nothing may wait: what is sent or received outside of a select that has another way could stand still for ever.
func TestNothingWaits(t *testing.T) {
	for name, f := range parsed(t) {
		ast.Inspect(f, func(n ast.Node) bool {
			switch x := n.(type) {
			case *ast.GoStmt:
				t.Errorf("%s starts a goroutine", name)
			case *ast.SelectStmt:
				if !hasDefault(x) {
					t.Errorf("%s has a select that waits", name)
				}
				return false
			case *ast.SendStmt:
				t.Errorf("%s sends outside of a select", name)
			case *ast.UnaryExpr:
				if x.Op == token.ARROW {
					t.Errorf("%s receives outside of a select", name)
				}
			}
			return true
		})
	}
}

// hasDefault is whether a select has a way that is always open.
func hasDefault(s *ast.SelectStmt) bool {
	for _, c := range s.Body.List {
		if clause, ok := c.(*ast.CommClause); ok && clause.Comm == nil {
			return true
		}
	}
	return false
}
