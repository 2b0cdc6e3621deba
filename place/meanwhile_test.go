package place_test

import (
	"testing"

	"footlocker/api"
	"footlocker/place"
)

func TestUsedGrewMeanwhile(t *testing.T) {
	for class := range rooms {
		for times := 1; times <= 2; times++ {
			e := filled(t, arena(2, 80), 0)
			wantOpened(t, e, class, -1, 0)
			p := place.New(class)
			wantSeen(t, e, p, class, 0)
			wantLook(t, e, p, 0)
			e.Who = 1
			for range times {
				wantGot(t, e, class, 0)
			}
			e.Who = 0
			// In vain: all begins anew.
			wantOn(t, e, p, chunkAt(e.C, 0), wordOf(e, 0))
			wantSeen(t, e, p, class, 0)
			wantGrown(t, e, p, class, 0)
			wantChunk(t, e, 0, open, class, (times+2)*rooms[class], 1)
		}
	}
}

func TestUsedGrewAheadOfTheLoad(t *testing.T) {
	// Whatever was done till the chunk's word is loaded is seen.
	e := filled(t, arena(2, 80), 0)
	wantOpened(t, e, 1, -1, 0)
	p := place.New(1)
	wantSeen(t, e, p, 1, 0)
	e.Who = 1
	wantGot(t, e, 1, 0)
	e.Who = 0
	wantGrown(t, e, p, 1, 0)
	wantSpot(t, p, api.Spot{Addr: baseAt(e.C, 0) + 10, Chunk: 0}, true)
}

func TestTheLastRoomIsTakenMeanwhile(t *testing.T) {
	e := filled(t, arena(2, 34), 0)
	wantOpened(t, e, 3, -1, 0)
	p := place.New(3)
	wantSeen(t, e, p, 3, 0)
	wantLook(t, e, p, 0)
	e.Who = 1
	wantGot(t, e, 3, 0)
	e.Who = 0
	wantOn(t, e, p, chunkAt(e.C, 0), chunk(open, 3, 34, 1))
	// Anew, the open one has no room any more.
	wantSeen(t, e, p, 3, 0)
	wantLook(t, e, p, 0)
	wantLook(t, e, p, 0)
	wantLook(t, e, p, 1)
	wantTake(t, e, p, 3, 1)
	wantOn(t, e, p, openAt(3), 2)
	wantSeen(t, e, p, 3, 1)
	wantGrown(t, e, p, 3, 1)
}

func TestTheOpenChunkIsAnotherOneBehindTheLoad(t *testing.T) {
	// Its words are used as before, its Stamp is not: it was evacuated, and left.
	for _, w := range []uint64{chunk(open, 2, 9, 3), chunk(evac, 2, 9, 2), chunk(quiet, 2, 9, 3), chunk(free, 2, 0, 4), chunk(open, 1, 9, 5), chunk(open, 2, 0, 5)} {
		e := filled(t, arena(3, 40), 0)
		wantOpened(t, e, 2, -1, 0)
		p := place.New(2)
		wantSeen(t, e, p, 2, 0)
		wantLook(t, e, p, 0)
		lay(e, 0, w)
		wantOn(t, e, p, chunkAt(e.C, 0), w)
		wantSeen(t, e, p, 2, 0)
	}
}

func TestTheFreeChunkIsTakenMeanwhile(t *testing.T) {
	for class := range rooms {
		e := filled(t, arena(3, 40), 0)
		p := place.New(class)
		wantSeen(t, e, p, class, -1)
		wantLook(t, e, p, 0)
		e.Who = 1
		other := (class + 1) % 4
		wantOpened(t, e, other, -1, 0)
		e.Who = 0
		// In vain: not all begins anew, but the next one is looked at.
		wantOn(t, e, p, chunkAt(e.C, 0), chunk(open, other, rooms[other], 1))
		wantLook(t, e, p, 1)
		wantTake(t, e, p, class, 1)
		wantOn(t, e, p, openAt(class), 2)
		wantSeen(t, e, p, class, 1)
		wantGrown(t, e, p, class, 1)
	}
}

func TestTheFreeChunkIsAnotherFreeOneMeanwhile(t *testing.T) {
	// It was taken, and is free again: by its Stamp it is another one.
	e := filled(t, arena(2, 40), 0)
	p := place.New(1)
	wantSeen(t, e, p, 1, -1)
	wantLook(t, e, p, 0)
	lay(e, 0, chunk(free, 0, 0, 2))
	wantOn(t, e, p, chunkAt(e.C, 0), chunk(free, 0, 0, 2))
	wantLook(t, e, p, 1)
	wantTake(t, e, p, 1, 1)
}

func TestTheLastFreeChunkIsTakenMeanwhile(t *testing.T) {
	e := filled(t, arena(2, 20), 0)
	lay(e, 0, chunk(evac, 0, 3, 4))
	p := place.New(2)
	wantSeen(t, e, p, 2, -1)
	wantLook(t, e, p, 0)
	wantLook(t, e, p, 1)
	e.Who = 1
	wantOpened(t, e, 0, -1, 1)
	e.Who = 0
	// There is no more chunk to look at, so that it is done.
	wantStep(t, e, p, touch{chunkAt(e.C, 1), chunk(open, 0, 3, 1)}, true)
	wantSpot(t, p, api.Spot{}, false)
}

func TestAChunkIsFreeBehindTheLook(t *testing.T) {
	// Those that were passed over are not looked at again.
	e := filled(t, arena(3, 20), 0)
	for i := range 3 {
		lay(e, i, chunk(quiet, 0, 3, 4))
	}
	p := place.New(2)
	wantSeen(t, e, p, 2, -1)
	wantLook(t, e, p, 0)
	wantLook(t, e, p, 1)
	lay(e, 0, chunk(free, 0, 0, 5))
	lay(e, 1, chunk(free, 0, 0, 5))
	wantStep(t, e, p, touch{chunkAt(e.C, 2), chunk(quiet, 0, 3, 4)}, true)
	wantSpot(t, p, api.Spot{}, false)
	wantOpened(t, e, 2, -1, 0)
}

func TestAnotherOneIsOpenedMeanwhile(t *testing.T) {
	for class := range rooms {
		e := filled(t, arena(3, 40), 0)
		p := place.New(class)
		wantSeen(t, e, p, class, -1)
		wantLook(t, e, p, 0)
		wantTake(t, e, p, class, 0)
		e.Who = 1
		wantOpened(t, e, class, -1, 1)
		e.Who = 0
		wantOn(t, e, p, openAt(class), 2)
		// The one that was taken is free again.
		wantOn(t, e, p, chunkAt(e.C, 0), chunk(free, 0, 0, 2))
		// All begins anew.
		wantSeen(t, e, p, class, 1)
		wantGrown(t, e, p, class, 1)
		wantOpened(t, e, (class+1)%4, -1, 0)
		wantChunk(t, e, 0, open, (class+1)%4, rooms[(class+1)%4], 3)
	}
}

func TestAnotherOneIsOpenedInThePlaceOfAFullOne(t *testing.T) {
	e := filled(t, arena(4, 20), 0)
	wantOpened(t, e, 3, -1, 0)
	p := place.New(3)
	wantSeen(t, e, p, 3, 0)
	wantLook(t, e, p, 0)
	wantLook(t, e, p, 0)
	wantLook(t, e, p, 1)
	wantTake(t, e, p, 3, 1)
	e.Who = 1
	wantOpened(t, e, 3, 0, 2)
	e.Who = 0
	wantOn(t, e, p, openAt(3), 3)
	wantOn(t, e, p, chunkAt(e.C, 1), chunk(free, 0, 0, 2))
	// Anew, the one that was opened has no room either, and the one that was given back is the first free one.
	wantSeen(t, e, p, 3, 2)
	wantLook(t, e, p, 2)
	wantLook(t, e, p, 0)
	wantLook(t, e, p, 1)
	wantOn(t, e, p, chunkAt(e.C, 1), chunk(open, 3, 0, 3))
	wantOn(t, e, p, openAt(3), 2)
	wantSeen(t, e, p, 3, 1)
	wantGrown(t, e, p, 3, 1)
	wantChunk(t, e, 1, open, 3, 17, 3)
}

func TestAnotherClassOpensOneMeanwhile(t *testing.T) {
	// That is no hindrance: each class has an open chunk of its own.
	e := filled(t, arena(3, 40), 0)
	p := place.New(1)
	wantSeen(t, e, p, 1, -1)
	wantLook(t, e, p, 0)
	wantTake(t, e, p, 1, 0)
	e.Who = 1
	wantOpened(t, e, 2, -1, 1)
	wantOpened(t, e, 0, -1, 2)
	e.Who = 0
	wantOn(t, e, p, openAt(1), 1)
	wantSeen(t, e, p, 1, 0)
	wantGrown(t, e, p, 1, 0)
	wantOpen(t, e, 2, 0, 1, -1)
}

func TestTheSameOneIsOpenAgain(t *testing.T) {
	// It is still the one that was seen, whatever was open meanwhile.
	e := filled(t, arena(3, 20), 0)
	wantOpened(t, e, 3, -1, 0)
	p := place.New(3)
	wantSeen(t, e, p, 3, 0)
	wantLook(t, e, p, 0)
	wantLook(t, e, p, 0)
	wantLook(t, e, p, 1)
	wantTake(t, e, p, 3, 1)
	e.M.Store(openAt(3), 3)
	e.M.Store(openAt(3), 1)
	wantOn(t, e, p, openAt(3), 2)
	wantSeen(t, e, p, 3, 1)
	wantGrown(t, e, p, 3, 1)
}

func TestAllAreTakenWhileOneIsGivenBack(t *testing.T) {
	// Who looks while the last chunk is somebody's finds no room; who begins behind that finds it.
	e := filled(t, arena(2, 20), 0)
	p := place.New(0)
	wantSeen(t, e, p, 0, -1)
	wantLook(t, e, p, 0)
	wantTake(t, e, p, 0, 0)
	e.Who = 1
	wantOpened(t, e, 0, -1, 1)
	wantNone(t, e, 2, -1)
	e.Who = 0
	wantOn(t, e, p, openAt(0), 2)
	wantNone(t, e, 2, -1)
	wantOn(t, e, p, chunkAt(e.C, 0), chunk(free, 0, 0, 2))
	e.Who = 1
	wantOpened(t, e, 2, -1, 0)
	e.Who = 0
	wantSeen(t, e, p, 0, 1)
	wantGrown(t, e, p, 0, 1)
}

func TestWhatWasGivenOutOfATakenChunkIsKept(t *testing.T) {
	// Words of the chunk that is to be given back are somebody's: it is not free, and all begins anew.
	e := filled(t, arena(3, 40), 0)
	p := place.New(1)
	wantSeen(t, e, p, 1, -1)
	wantLook(t, e, p, 0)
	wantTake(t, e, p, 1, 0)
	e.M.Store(openAt(1), 1)
	e.Who = 1
	wantGot(t, e, 1, 0)
	wantOpen(t, e, -1, 0)
	e.M.Store(openAt(1), 2)
	lay(e, 1, chunk(open, 1, 5, 1))
	e.Who = 0
	wantOn(t, e, p, openAt(1), 2)
	wantOn(t, e, p, chunkAt(e.C, 0), chunk(open, 1, 5, 1))
	wantSeen(t, e, p, 1, 1)
	wantGrown(t, e, p, 1, 1)
}

func TestItIsInVainAgainAndAgain(t *testing.T) {
	e := filled(t, arena(2, 200), 0)
	wantOpened(t, e, 0, -1, 0)
	p := place.New(0)
	for range 50 {
		wantSeen(t, e, p, 0, 0)
		wantLook(t, e, p, 0)
		wantGot(t, e, 0, 0)
		wantOn(t, e, p, chunkAt(e.C, 0), wordOf(e, 0))
	}
	wantSeen(t, e, p, 0, 0)
	wantGrown(t, e, p, 0, 0)
	wantChunk(t, e, 0, open, 0, 52*3, 1)
}
