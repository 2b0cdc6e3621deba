package policy_test

import (
	"slices"
	"testing"

	"footlocker/api"
	"footlocker/policy"
)

// kinds is chunks of each kind: such as may be evacuated, and such as may not, where Sparse is 500.
func kinds() []api.Seen {
	return []api.Seen{
		old(20, 0), old(20, 3), old(8, 3), old(20, 9), old(20, 10), old(4, 2),
		first(20, 0), first(20, 1), in(free, 0, 0), in(evac, 20, 0), in(quiet, 20, 2), old(0, 0),
	}
}

// never is chunks that may not be evacuated, whatever Sparse is.
func never() []api.Seen {
	return []api.Seen{
		{}, first(20, 0), first(20, 1), in(free, 20, 0), in(evac, 20, 0), in(quiet, 20, 0), in(4, 20, 0), in(-1, 20, 0),
		old(0, 0), old(-1, 0), old(-1, -1), old(20, 20), old(20, 21), first(20, -1), in(evac, 20, -1),
	}
}

func TestChooseOfNone(t *testing.T) {
	for _, n := range []int{0, 500, 1000} {
		wantChoice(t, sparse(n), nil, -1)
		wantChoice(t, sparse(n), []api.Seen{}, -1)
		wantChoice(t, sparse(n), make([]api.Seen, 64), -1)
		wantChoice(t, sparse(n), never(), -1)
		for _, s := range never() {
			wantChoice(t, sparse(n), []api.Seen{s}, -1)
		}
	}
	wantChoice(t, sparse(500), []api.Seen{old(20, 10), old(20, 11), old(200, 100)}, -1)
	wantChoice(t, sparse(0), []api.Seen{old(20, 1), old(200, 1)}, -1)
}

func TestChooseOfOne(t *testing.T) {
	for n := range 64 {
		for i := range n {
			l := make([]api.Seen, n)
			l[i] = old(20, 9)
			wantChoice(t, sparse(500), l, i)
			l[i] = old(20, 10)
			wantChoice(t, sparse(500), l, -1)
			l[i] = old(20, 0)
			wantChoice(t, sparse(0), l, i)
		}
	}
}

func TestChooseTheFewestWhereverItStands(t *testing.T) {
	for i := range 12 {
		var l []api.Seen
		for k := range 12 {
			l = append(l, old(200, 30+k*5%12))
		}
		l[i].Live = 29
		wantChoice(t, sparse(500), l, i)
	}
	up, down := []api.Seen{}, []api.Seen{}
	for n := range 60 {
		up, down = append(up, old(200, n+1)), append(down, old(200, 60-n))
	}
	wantChoice(t, sparse(500), up, 0)
	wantChoice(t, sparse(500), down, 59)
}

func TestChooseByWordsNotByShares(t *testing.T) {
	// Of the second one a lesser share lives, and more words.
	wantChoice(t, sparse(500), []api.Seen{old(10, 4), old(200, 5)}, 0)
	wantChoice(t, sparse(500), []api.Seen{old(200, 5), old(10, 4)}, 1)
	// Fewest of all, but more than Sparse: it stays.
	wantChoice(t, sparse(500), []api.Seen{old(2, 1), old(200, 90)}, 1)
	wantChoice(t, sparse(500), []api.Seen{old(200, 90), old(2, 1)}, 0)
}

func TestChooseTheFirstOfSeveral(t *testing.T) {
	for _, live := range []int{0, 1, 7} {
		for i := range 6 {
			for k := i + 1; k < 6; k++ {
				l := slices.Repeat([]api.Seen{old(200, 8)}, 6)
				l[i].Live, l[k].Live = live, live
				wantChoice(t, sparse(500), l, i)
				l[i].Chunk.Used, l[k].Chunk.Used = 16, 256
				wantChoice(t, sparse(500), l, i)
				l[i].Chunk.Used, l[k].Chunk.Used = 256, 16
				wantChoice(t, sparse(500), l, i)
			}
		}
	}
	wantChoice(t, sparse(500), slices.Repeat([]api.Seen{old(20, 3)}, 64), 0)
}

func TestChooseOfAllShortLists(t *testing.T) {
	c := sparse(500)
	var all func(l []api.Seen, more int)
	all = func(l []api.Seen, more int) {
		wantChoice(t, c, l, chosen(c, l))
		if more == 0 {
			return
		}
		for _, s := range kinds() {
			all(append(slices.Clone(l), s), more-1)
		}
	}
	all(nil, 4)
}

func TestChooseOfMixedLists(t *testing.T) {
	m := mixed(1)
	for range 20000 {
		c := sparse([]int{0, 1, 100, 500, 999, 1000}[m.below(6)])
		var l []api.Seen
		for range m.below(65) {
			s := in(open, m.below(257), m.below(40))
			if m.below(8) == 0 {
				s.Chunk.State = m.below(4)
			}
			s.Open = m.below(8) == 0
			l = append(l, s)
		}
		wantChoice(t, c, l, chosen(c, l))
	}
}

func TestOneMoreThatMayNotChangesJustPlaces(t *testing.T) {
	m := mixed(2)
	for range 300 {
		c := sparse([]int{0, 500, 1000}[m.below(3)])
		var l []api.Seen
		for range m.below(8) {
			l = append(l, kinds()[m.below(len(kinds()))])
		}
		was := policy.Choose(c, l)
		for _, s := range never() {
			for i := range len(l) + 1 {
				want := was
				if was >= i {
					want++
				}
				wantChoice(t, c, slices.Insert(slices.Clone(l), i, s), want)
			}
		}
	}
}

func TestOneMoreOfWhichFewerLiveIsChosen(t *testing.T) {
	m := mixed(3)
	for range 300 {
		var l []api.Seen
		for range m.below(8) {
			l = append(l, old(200, 4+m.below(100)))
		}
		was := policy.Choose(sparse(500), l)
		for i := range len(l) + 1 {
			wantChoice(t, sparse(500), slices.Insert(slices.Clone(l), i, old(7, 3)), i)
			for _, s := range []api.Seen{old(6, 3), first(7, 3), in(evac, 7, 3)} {
				want := was
				if was >= i {
					want++
				}
				wantChoice(t, sparse(500), slices.Insert(slices.Clone(l), i, s), want)
			}
		}
	}
}

func TestChooseHangsOnNothingElse(t *testing.T) {
	l := []api.Seen{old(20, 4), old(20, 3), old(20, 3)}
	for _, n := range odd() {
		for _, k := range odd() {
			for i := range l {
				l[i].Chunk.Class, l[i].Chunk.Stamp = n+i, k-i
			}
			wantChoice(t, api.Config{Threads: n, Slots: k, Chunks: n, Words: k, Gens: n, Sparse: 500, Tries: k}, l, 1)
		}
	}
}
