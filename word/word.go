// Package word is layer 1: see shared/doc/01-word.md.
package word

import (
	"footlocker/api"
)

// PutHandle is a handle as a number.
func PutHandle(h api.Handle) uint64 {
	return put(h.Slot, handleSlotAt, slotBits) | put(h.Gen, handleGenAt, genBits)
}

// Handle is the handle of a number; false: it is none.
func Handle(n uint64) (api.Handle, bool) {
	gen := get(n, handleGenAt, genBits)
	if gen == 0 || n>>handleEnd != 0 {
		return api.Handle{}, false
	}
	return api.Handle{Slot: get(n, handleSlotAt, slotBits), Gen: gen}, true
}

// PutSlot is a handle's word.
func PutSlot(s api.Slot) uint64 {
	return put(s.State, slotStateAt, slotStateBits) |
		put(s.Addr, slotAddrAt, addrBits) |
		put(s.Gen, slotGenAt, genBits) |
		put(s.Ver, slotVerAt, verBits)
}

// Slot is what a handle's word has.
func Slot(w uint64) api.Slot {
	return api.Slot{
		State: get(w, slotStateAt, slotStateBits),
		Addr:  get(w, slotAddrAt, addrBits),
		Gen:   get(w, slotGenAt, genBits),
		Ver:   get(w, slotVerAt, verBits),
	}
}

// PutChunk is a chunk's word.
func PutChunk(c api.Chunk) uint64 {
	return put(c.State, chunkStateAt, chunkStateBits) |
		put(c.Class, chunkClassAt, classBits) |
		put(c.Used, chunkUsedAt, usedBits) |
		put(c.Stamp, chunkStampAt, stampBits)
}

// Chunk is what a chunk's word has.
func Chunk(w uint64) api.Chunk {
	return api.Chunk{
		State: get(w, chunkStateAt, chunkStateBits),
		Class: get(w, chunkClassAt, classBits),
		Used:  get(w, chunkUsedAt, usedBits),
		Stamp: get(w, chunkStampAt, stampBits),
	}
}

// PutHead is an object's head.
func PutHead(h api.Head) uint64 {
	w := put(h.Kind, headKindAt, kindBits) |
		put(h.Size, headSizeAt, sizeBits) |
		put(h.Slot, headSlotAt, slotBits) |
		put(h.Gen, headGenAt, genBits)
	if h.Own {
		w |= 1 << headOwnAt
	}
	return w
}

// Head is what an object's head has.
func Head(w uint64) api.Head {
	return api.Head{
		Kind: get(w, headKindAt, kindBits),
		Size: get(w, headSizeAt, sizeBits),
		Slot: get(w, headSlotAt, slotBits),
		Gen:  get(w, headGenAt, genBits),
		Own:  w&(1<<headOwnAt) != 0,
	}
}

// PutCell is a word of an object.
func PutCell(c api.Cell) uint64 {
	w := put(c.Value, cellValueAt, valueBits)
	// Only a move gives a cell its version: without one, a value has a single word, so that Cas finds it.
	if c.Frozen {
		w |= 1<<cellFrozenAt | put(c.Ver, cellVerAt, verBits)
	}
	return w
}

// Cell is what a word of an object has.
func Cell(w uint64) api.Cell {
	c := api.Cell{Value: get(w, cellValueAt, valueBits)}
	if w&(1<<cellFrozenAt) != 0 {
		c.Frozen = true
		c.Ver = get(w, cellVerAt, verBits)
	}
	return c
}

// PutTop is the word of the first free slot (below 0: none), and how often it was another one.
func PutTop(slot, count int) uint64 {
	// The slot is bounded ahead of the sum: 17 bits have room for more than a slot may be, and the greatest int would wrap round.
	first := min(slot, api.MostSlots-1) + 1
	return put(first, topSlotAt, topSlotBits) | put(count, topCountAt, stampBits)
}

// Top is the first free slot (below 0: none), and how often it was another one.
func Top(w uint64) (int, int) {
	return get(w, topSlotAt, topSlotBits) - 1, get(w, topCountAt, stampBits)
}
