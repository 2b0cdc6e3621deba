package policy_test

import (
	"math"
	"math/big"
	"testing"

	"footlocker/api"
	"footlocker/policy"
)

// The states of a chunk's word, as chapter 1 numbers them.
const (
	free  = 0
	open  = 1
	evac  = 2
	quiet = 3
)

// sparse is an arena of which policy asks nothing but how sparse a chunk must be.
func sparse(n int) api.Config {
	return api.Config{Threads: 2, Slots: 8, Chunks: 4, Words: 200, Gens: 9, Sparse: n, Tries: 3}
}

// old is a chunk that is open, but not the open one of its class.
func old(used, live int) api.Seen {
	return api.Seen{Chunk: api.Chunk{State: open, Class: 1, Used: used, Stamp: 7}, Live: live}
}

// first is the open one of its class.
func first(used, live int) api.Seen {
	s := old(used, live)
	s.Open = true
	return s
}

// in is a chunk in any state.
func in(state, used, live int) api.Seen {
	s := old(used, live)
	s.Chunk.State = state
	return s
}

// times is a product of numbers of any length.
func times(a, b int) *big.Int {
	return new(big.Int).Mul(big.NewInt(int64(a)), big.NewInt(int64(b)))
}

// may is what the chapter's section Words says, by numbers of any length.
func may(c api.Config, s api.Seen) bool {
	isOpen := s.Chunk.State == open
	given := s.Chunk.Used > 0
	none := s.Live == 0
	few := times(1000, s.Live).Cmp(times(c.Sparse, s.Chunk.Used)) < 0
	return isOpen && !s.Open && given && (none || few)
}

// chosen is what promise 12.1 says of a list, told from its end.
func chosen(c api.Config, l []api.Seen) int {
	at := -1
	for i := len(l) - 1; i >= 0; i-- {
		if may(c, l[i]) && (at < 0 || l[i].Live <= l[at].Live) {
			at = i
		}
	}
	return at
}

// odd is numbers that may be, at their edges, and such as may not be.
func odd() []int {
	return []int{math.MinInt, math.MinInt + 1, math.MinInt / 1000, -1 << 32, -1001, -1000, -2, -1, 0, 1, 2, 3, 255, 256, 257, 999, 1000, 1001, 1 << 20, 1 << 32, 1 << 53, 1 << 54, 1<<62 - 1, 1 << 62, math.MaxInt/1000 - 1, math.MaxInt / 1000, math.MaxInt/1000 + 1, math.MaxInt - 1, math.MaxInt}
}

// mixed is numbers that look like chance, and are the same each time.
type mixed uint64

func (m *mixed) below(n int) int {
	*m = *m*6364136223846793005 + 1442695040888963407
	return int(uint64(*m) >> 33 % uint64(n))
}

func wantMay(t *testing.T, c api.Config, s api.Seen, want bool) {
	t.Helper()
	if policy.May(c, s) != want {
		t.Errorf("Sparse %d, %+v: %v", c.Sparse, s, !want)
	}
}

func wantChoice(t *testing.T, c api.Config, l []api.Seen, want int) {
	t.Helper()
	if n := policy.Choose(c, l); n != want {
		t.Errorf("Sparse %d, %+v: %d, not %d", c.Sparse, l, n, want)
	}
}
