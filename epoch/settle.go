package epoch

import (
	"footlocker/api"
	"footlocker/layout"
	"footlocker/word"
)

// What somebody who settles a chunk does at the next step.
const (
	toSee   = iota // the chunk's word
	toAsk          // the epoch in which it was evacuated
	toLook         // at the epoch
	toClear        // its words that were given out
	toCount        // none of its words among those that live
	toFree         // it
	done
)

// Where, behind a chunk's word, the rest stands that is known of it.
const (
	liveAt  = 1
	sinceAt = 2
)

// Settle is the compactor that lets a chunk that was evacuated be free, when its time has come.
type Settle struct {
	next    int
	chunk   int
	seen    api.Chunk // the chunk's word, as it was loaded
	since   uint64    // the epoch in which it was evacuated
	cleared int       // how many of its words were laid 0
	freed   bool
}

// NewSettle is one that looks at that chunk.
func NewSettle(chunk int) *Settle {
	return &Settle{chunk: chunk}
}

// Freed tells whether the chunk is free by that.
func (s *Settle) Freed() bool {
	return s != nil && s.freed
}

// Step does a step: whether it is done.
func (s *Settle) Step(e layout.Env) bool {
	if s == nil {
		return false
	}
	// Where another chunk's word would stand is something else's.
	if !stands(e) || s.chunk < 0 || s.chunk >= e.C.Chunks {
		s.next = done
	}
	// To see that nothing is left to be cleared takes no step of its own.
	if s.next == toClear && s.cleared >= s.given(e) {
		s.next = toCount
	}
	switch s.next {
	case toSee:
		s.see(e)
	case toAsk:
		s.since = e.Load(s.at(e) + sinceAt)
		s.next = toLook
	case toLook:
		s.look(e)
	case toClear:
		e.Store(layout.Base(e.C, s.chunk)+s.cleared, 0)
		s.cleared++
	case toCount:
		e.Store(s.at(e)+liveAt, 0)
		s.next = toFree
	case toFree:
		s.free(e)
	}
	return s.next == done
}

// see loads the chunk's word.
func (s *Settle) see(e layout.Env) {
	s.seen = word.Chunk(e.Load(s.at(e)))
	s.next = toAsk
	if s.seen.State != api.ChunkQuiet {
		s.next = done
	}
}

// look loads the epoch. The difference is asked for, as a sum could wrap round.
func (s *Settle) look(e layout.Env) {
	now := e.Load(layout.Epoch())
	s.next = toClear
	if now < s.since || now-s.since < api.Grace {
		s.next = done
	}
}

// free lets the chunk be free. Last of all: from then on its words are another one's.
func (s *Settle) free(e layout.Env) {
	e.Store(s.at(e), word.PutChunk(api.Chunk{State: api.ChunkFree, Stamp: s.seen.Stamp + 1}))
	s.freed = true
	s.next = done
}

// given is how many of its words were given out; what its word tells beyond its end is the next chunk's.
func (s *Settle) given(e layout.Env) int {
	return min(s.seen.Used, e.C.Words)
}

// at is where the chunk's word stands.
func (s *Settle) at(e layout.Env) int {
	return layout.Chunk(e.C, s.chunk)
}
