package word

// How many bits each thing has.
const (
	slotBits       = 16
	genBits        = 16
	addrBits       = 20
	verBits        = 22
	slotStateBits  = 3
	chunkStateBits = 2
	classBits      = 6
	usedBits       = 20
	stampBits      = 36
	kindBits       = 2
	sizeBits       = 16
	valueBits      = 40
	topSlotBits    = slotBits + 1 // a slot and 1, as 0 is none
)

// At which bit each thing begins.
const (
	handleSlotAt = 0
	handleGenAt  = handleSlotAt + slotBits
	handleEnd    = handleGenAt + genBits

	slotStateAt = 0
	slotAddrAt  = slotStateAt + slotStateBits
	slotGenAt   = slotAddrAt + addrBits
	slotVerAt   = slotGenAt + genBits

	chunkStateAt = 0
	chunkClassAt = chunkStateAt + chunkStateBits
	chunkUsedAt  = chunkClassAt + classBits
	chunkStampAt = chunkUsedAt + usedBits

	headKindAt = 0
	headSizeAt = headKindAt + kindBits
	headSlotAt = headSizeAt + sizeBits
	headGenAt  = headSlotAt + slotBits
	headOwnAt  = headGenAt + genBits

	cellValueAt  = 0
	cellVerAt    = cellValueAt + valueBits
	cellFrozenAt = 63

	topSlotAt  = 0
	topCountAt = topSlotAt + topSlotBits
)

// most is the greatest number that so many bits have room for.
func most(bits uint) uint64 {
	return 1<<bits - 1
}

// put is a number at a place of a word; one that does not fit is brought to the nearest that does, so that it never runs into what stands beside it.
func put(n int, at, bits uint) uint64 {
	if n < 0 {
		return 0
	}
	return min(uint64(n), most(bits)) << at
}

// get is the number at a place of a word.
func get(w uint64, at, bits uint) int {
	return int(w >> at & most(bits))
}
