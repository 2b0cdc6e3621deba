package word_test

import (
	"math"
	"testing"

	"footlocker/api"
	"footlocker/word"
)

// place is one number of a word: how it is packed alone and taken out, where the chapter lays it, and the greatest that fits.
type place struct {
	name string
	put  func(n int) uint64
	get  func(w uint64) int
	at   uint
	bits uint
	most int
}

// handleOf leaves out whether a number is a handle; TestHandleNone asks that.
func handleOf(w uint64) api.Handle {
	h, _ := word.Handle(w)
	return h
}

func places() []place {
	return []place{
		{"slot State", func(n int) uint64 { return word.PutSlot(api.Slot{State: n}) }, func(w uint64) int { return word.Slot(w).State }, 0, 3, 7},
		{"slot Addr", func(n int) uint64 { return word.PutSlot(api.Slot{Addr: n}) }, func(w uint64) int { return word.Slot(w).Addr }, 3, 20, api.MostAddress},
		{"slot Gen", func(n int) uint64 { return word.PutSlot(api.Slot{Gen: n}) }, func(w uint64) int { return word.Slot(w).Gen }, 23, 16, api.MostGen},
		{"slot Ver", func(n int) uint64 { return word.PutSlot(api.Slot{Ver: n}) }, func(w uint64) int { return word.Slot(w).Ver }, 39, 22, api.MostVer},

		{"chunk State", func(n int) uint64 { return word.PutChunk(api.Chunk{State: n}) }, func(w uint64) int { return word.Chunk(w).State }, 0, 2, 3},
		{"chunk Class", func(n int) uint64 { return word.PutChunk(api.Chunk{Class: n}) }, func(w uint64) int { return word.Chunk(w).Class }, 2, 6, 63},
		{"chunk Used", func(n int) uint64 { return word.PutChunk(api.Chunk{Used: n}) }, func(w uint64) int { return word.Chunk(w).Used }, 8, 20, 1<<20 - 1},
		{"chunk Stamp", func(n int) uint64 { return word.PutChunk(api.Chunk{Stamp: n}) }, func(w uint64) int { return word.Chunk(w).Stamp }, 28, 36, api.MostStamp},

		{"head Kind", func(n int) uint64 { return word.PutHead(api.Head{Kind: n}) }, func(w uint64) int { return word.Head(w).Kind }, 0, 2, 3},
		{"head Size", func(n int) uint64 { return word.PutHead(api.Head{Size: n}) }, func(w uint64) int { return word.Head(w).Size }, 2, 16, 1<<16 - 1},
		{"head Slot", func(n int) uint64 { return word.PutHead(api.Head{Slot: n}) }, func(w uint64) int { return word.Head(w).Slot }, 18, 16, api.MostSlots - 1},
		{"head Gen", func(n int) uint64 { return word.PutHead(api.Head{Gen: n}) }, func(w uint64) int { return word.Head(w).Gen }, 34, 16, api.MostGen},

		{"cell Value", func(n int) uint64 { return word.PutCell(api.Cell{Value: n}) }, func(w uint64) int { return word.Cell(w).Value }, 0, 40, api.MostValue},
		{"cell Ver", func(n int) uint64 { return word.PutCell(api.Cell{Frozen: true, Ver: n}) &^ (1 << 63) }, func(w uint64) int { return word.Cell(w | 1<<63).Ver }, 40, 22, api.MostVer},

		{"handle Slot", func(n int) uint64 { return word.PutHandle(api.Handle{Slot: n, Gen: 1}) &^ (1 << 16) }, func(w uint64) int { return handleOf(w&(1<<16-1) | 1<<16).Slot }, 0, 16, api.MostSlots - 1},
		{"handle Gen", func(n int) uint64 { return word.PutHandle(api.Handle{Gen: n}) }, func(w uint64) int { return handleOf(w & (1<<32 - 1)).Gen }, 16, 16, api.MostGen},

		{"top count", func(n int) uint64 { return word.PutTop(-1, n) }, func(w uint64) int { _, count := word.Top(w); return count }, 17, 36, api.MostStamp},
	}
}

// fitting is numbers that fit: the edges, each bit alone, and each run of low bits.
func fitting(p place) []int {
	l := []int{0, p.most}
	for b := uint(0); b < p.bits; b++ {
		l = append(l, 1<<b, 1<<b-1, p.most-1<<b)
	}
	return l
}

func TestPlaceHasItsBits(t *testing.T) {
	for _, p := range places() {
		if p.most != 1<<p.bits-1 {
			t.Errorf("%s: %d is not the greatest of %d bits", p.name, p.most, p.bits)
		}
		for _, n := range fitting(p) {
			if w := p.put(n); w != uint64(n)<<p.at {
				t.Errorf("%s: %d is packed as %#x, not %#x", p.name, n, w, uint64(n)<<p.at)
			}
		}
	}
}

func TestPlaceComesBack(t *testing.T) {
	for _, p := range places() {
		for _, n := range fitting(p) {
			if got := p.get(p.put(n)); got != n {
				t.Errorf("%s: %d came back as %d", p.name, n, got)
			}
		}
	}
}

func TestPlaceReadsNoOtherBits(t *testing.T) {
	for _, p := range places() {
		mask := uint64(p.most) << p.at
		if got := p.get(^mask); got != 0 {
			t.Errorf("%s: %d of a word that has it as 0, all other bits 1", p.name, got)
		}
		if got := p.get(^uint64(0)); got != p.most {
			t.Errorf("%s: %d of a word whose bits are all 1", p.name, got)
		}
		for b := uint(0); b < p.bits; b++ {
			if got := p.get(1 << (p.at + b)); got != 1<<b {
				t.Errorf("%s: bit %d of it is read as %d", p.name, b, got)
			}
		}
	}
}

func TestPlaceBelowNoughtIsNought(t *testing.T) {
	for _, p := range places() {
		for _, n := range []int{-1, -2, -p.most, -p.most - 1, -p.most - 2, math.MinInt + 1, math.MinInt} {
			if w := p.put(n); w != 0 {
				t.Errorf("%s: %d is packed as %#x", p.name, n, w)
			}
		}
	}
}

func TestPlaceTooGreatIsTheGreatest(t *testing.T) {
	for _, p := range places() {
		for _, n := range []int{p.most + 1, p.most + 2, 2 * (p.most + 1), 2*(p.most+1) + 1, math.MaxInt - 1, math.MaxInt} {
			if w := p.put(n); w != uint64(p.most)<<p.at {
				t.Errorf("%s: %d is packed as %#x, not %#x", p.name, n, w, uint64(p.most)<<p.at)
			}
		}
	}
}
