package policy_test

import (
	"go/ast"
	"go/parser"
	"go/token"
	"os"
	"slices"
	"strings"
	"testing"

	"footlocker/api"
	"footlocker/policy"
)

func TestChooseOfNumbersThatMayNotBe(t *testing.T) {
	for _, n := range odd() {
		c := sparse(n)
		var all []api.Seen
		for _, used := range odd() {
			var l []api.Seen
			for _, live := range odd() {
				l = append(l, old(used, live))
			}
			wantChoice(t, c, l, chosen(c, l))
			slices.Reverse(l)
			wantChoice(t, c, l, chosen(c, l))
			all = append(all, l...)
		}
		wantChoice(t, c, all, chosen(c, all))
	}
}

func TestChooseOfALongListEnds(t *testing.T) {
	// Ever fewer, and as many each time: what is gone over for each chunk anew would take days.
	n := 1 << 21
	down, same := make([]api.Seen, n), make([]api.Seen, n)
	for i := range n {
		down[i], same[i] = old(3*n, n-i), old(3*n, n)
	}
	if i := policy.Choose(sparse(500), down); i != n-1 {
		t.Error(i)
	}
	if i := policy.Choose(sparse(500), same); i != 0 {
		t.Error(i)
	}
	if i := policy.Choose(sparse(100), same); i != -1 {
		t.Error(i)
	}
}

func TestWhatIsHandedInIsNotChanged(t *testing.T) {
	l := append(kinds(), never()...)
	whole := append(slices.Clone(l), old(20, 1))
	part, was := whole[:len(l)], slices.Clone(whole)
	c := sparse(500)
	wantChoice(t, c, part, 0)
	wantMay(t, c, part[0], true)
	if !slices.Equal(whole, was) || c != sparse(500) {
		t.Error(whole)
	}
}

func TestWhatIsChangedLaterIsSeenAnew(t *testing.T) {
	l := []api.Seen{old(20, 4), old(20, 5), old(20, 6)}
	wantChoice(t, sparse(500), l, 0)
	l[2].Live = 3
	wantChoice(t, sparse(500), l, 2)
	wantChoice(t, sparse(500), l[:2], 0)
	wantChoice(t, sparse(0), l, -1)
	wantChoice(t, sparse(500), l[1:], 1)
}

func TestTheSameCallsTellTheSame(t *testing.T) {
	m := mixed(4)
	for range 200 {
		var l []api.Seen
		for range m.below(20) {
			l = append(l, kinds()[m.below(len(kinds()))])
		}
		n := policy.Choose(sparse(500), l)
		for range 5 {
			wantChoice(t, sparse(500), l, n)
		}
	}
}

func TestStandsOnApiAlone(t *testing.T) {
	files, err := os.ReadDir(".")
	if err != nil {
		t.Fatal(err)
	}
	below := []string{`"footlocker/api"`, `"math/bits"`}
	for _, f := range files {
		name := f.Name()
		if !strings.HasSuffix(name, ".go") || strings.HasSuffix(name, "_test.go") {
			continue
		}
		parsed, err := parser.ParseFile(token.NewFileSet(), name, nil, parser.ImportsOnly)
		if err != nil {
			t.Fatal(err)
		}
		for _, i := range parsed.Imports {
			if !slices.Contains(below, i.Path.Value) {
				t.Errorf("%s imports %s", name, i.Path.Value)
			}
		}
	}
}

// loopsAround is how many loops stand around a labelled continue of a file, at most.
func loopsAround(f *ast.File) int {
	most := 0
	var path []ast.Node
	ast.Inspect(f, func(n ast.Node) bool {
		if n == nil {
			path = path[:len(path)-1]
			return true
		}
		path = append(path, n)
		if b, is := n.(*ast.BranchStmt); is && b.Tok == token.CONTINUE && b.Label != nil {
			loops := 0
			for _, p := range path {
				switch p.(type) {
				case *ast.ForStmt, *ast.RangeStmt:
					loops++
				}
			}
			most = max(most, loops)
		}
		return true
	})
	return most
}

func TestChunksArePassedOverByALabel(t *testing.T) {
	f, err := parser.ParseFile(token.NewFileSet(), "policy.go", nil, 0)
	if err != nil {
		t.Fatal(err)
	}
	if n := loopsAround(f); n < 2 {
		t.Error(n)
	}
}
