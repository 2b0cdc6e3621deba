package policy_test

import (
	"math"
	"testing"

	"footlocker/api"
	"footlocker/policy"
)

func TestNumbersOfAChunksStates(t *testing.T) {
	if free != api.ChunkFree || open != api.ChunkOpen || evac != api.ChunkEvac || quiet != api.ChunkQuiet {
		t.Error("states")
	}
}

func TestMayAtItsBound(t *testing.T) {
	for _, x := range []struct {
		sparse, used, live int
		may                bool
	}{
		{500, 10, 4, true}, {500, 10, 5, false}, {500, 10, 6, false},
		{500, 11, 5, true}, {500, 11, 6, false},
		{500, 1, 0, true}, {500, 1, 1, false},
		{501, 10, 5, true}, {499, 10, 5, false}, {499, 10, 4, true},
		{600, 200, 119, true}, {600, 200, 120, false}, {600, 200, 121, false},
		{333, 3, 0, true}, {333, 3, 1, false}, {334, 3, 1, true}, {334, 3, 2, false},
		{1, 200, 0, true}, {1, 200, 1, false}, {1, 1000, 1, false}, {1, 1001, 1, true},
		{999, 200, 199, true}, {999, 200, 200, false},
		{5, 200, 1, false}, {6, 200, 1, true}, {4, 256, 1, true}, {3, 256, 1, false},
	} {
		wantMay(t, sparse(x.sparse), old(x.used, x.live), x.may)
	}
}

func TestMayOfEachChunkThatMayBe(t *testing.T) {
	for _, n := range []int{0, 1, 2, 3, 4, 5, 250, 333, 334, 499, 500, 501, 600, 666, 667, 996, 997, 999, 1000} {
		for used := range api.MostChunk + 1 {
			for live := range used + 1 {
				wantMay(t, sparse(n), old(used, live), used > 0 && (live == 0 || 1000*live < n*used))
			}
		}
	}
}

func TestMayWithoutSparseJustWhereNoneLives(t *testing.T) {
	for used := 1; used <= 256; used++ {
		wantMay(t, sparse(0), old(used, 0), true)
		for live := 1; live <= used; live++ {
			wantMay(t, sparse(0), old(used, live), false)
		}
	}
}

func TestMayOfAnyThatIsNotFull(t *testing.T) {
	for used := 1; used <= 256; used++ {
		for live := range used {
			wantMay(t, sparse(1000), old(used, live), true)
		}
		wantMay(t, sparse(1000), old(used, used), false)
		wantMay(t, sparse(1000), old(used, used+1), false)
	}
}

func TestMayOfNoneOfWhichNothingWasGivenOut(t *testing.T) {
	for _, n := range []int{0, 1, 500, 1000} {
		for _, live := range []int{0, 1, 2} {
			wantMay(t, sparse(n), old(0, live), false)
			wantMay(t, sparse(n), old(-1, live), false)
			wantMay(t, sparse(n), old(math.MinInt, live), false)
		}
		wantMay(t, sparse(n), old(1, 0), true)
	}
}

func TestMayOfNoneThatIsTheOpenOne(t *testing.T) {
	for _, n := range []int{0, 1, 500, 1000} {
		for used := range 20 {
			for live := range used + 1 {
				wantMay(t, sparse(n), first(used, live), false)
			}
		}
	}
}

func TestMayInAnyState(t *testing.T) {
	for _, n := range []int{0, 500, 1000} {
		for _, state := range []int{free, open, evac, quiet, 4, 5, 7, -1, -2, 1 << 8, 1<<8 + 1, 1<<32 + 1, math.MinInt, math.MaxInt} {
			wantMay(t, sparse(n), in(state, 20, 0), state == open)
			wantMay(t, sparse(n), in(state, 20, 1), state == open && n > 0)
			wantMay(t, sparse(n), in(state, 20, 20), false)
			s := in(state, 20, 0)
			s.Open = true
			wantMay(t, sparse(n), s, false)
		}
	}
}

func TestMayHangsOnNothingElse(t *testing.T) {
	for _, class := range odd() {
		for _, stamp := range odd() {
			for _, live := range []int{9, 10} {
				s := old(20, live)
				s.Chunk.Class, s.Chunk.Stamp = class, stamp
				c := api.Config{Threads: class, Slots: stamp, Chunks: class, Words: stamp, Gens: class, Sparse: 500, Tries: stamp}
				wantMay(t, c, s, live == 9)
				wantMay(t, api.Config{Sparse: 500}, s, live == 9)
			}
		}
	}
}

func TestMayOfNumbersThatMayNotBe(t *testing.T) {
	for _, n := range odd() {
		for _, used := range odd() {
			for _, live := range odd() {
				s := old(used, live)
				wantMay(t, sparse(n), s, may(sparse(n), s))
				s.Open = true
				wantMay(t, sparse(n), s, false)
			}
		}
	}
}

func TestMayAtABoundThatIsGreat(t *testing.T) {
	// 1000 times these is more than a number can be: wrapped round it would be less, or more, than it is.
	for _, used := range []int{1 << 53, 1 << 54, 1 << 60, math.MaxInt - 1, math.MaxInt} {
		wantMay(t, sparse(1000), old(used, used-1), true)
		wantMay(t, sparse(1000), old(used, used), false)
		wantMay(t, sparse(999), old(used, used-1), false)
		wantMay(t, sparse(500), old(used, used/2-1), true)
		wantMay(t, sparse(500), old(used, used/2+1), false)
		wantMay(t, sparse(used), old(1000, used-1), true)
		wantMay(t, sparse(used), old(1000, used), false)
		wantMay(t, sparse(used), old(used, used), true)
		wantMay(t, sparse(-used), old(used, used), false)
	}
}

func TestNoneMayThatIsNothing(t *testing.T) {
	if policy.May(api.Config{}, api.Seen{}) || policy.May(sparse(1000), api.Seen{}) {
		t.Error("a free chunk")
	}
	wantMay(t, api.Config{}, old(1, 0), true)
}
