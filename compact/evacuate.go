package compact

import (
	"footlocker/api"
	"footlocker/layout"
	"footlocker/move"
	"footlocker/word"
)

// evacuate moves what lives in the chunk that was chosen elsewhere.
func (c *Compactor) evacuate(e layout.Env) {
	// Where the word of a chunk that the arena has no more would stand is something else's.
	if c.chunk >= e.C.Chunks {
		c.finish()
		return
	}
	// To see that no object is left takes no step of its own.
	if c.next == toHead && c.passed >= c.given(e) {
		c.next = toDate
	}
	switch c.next {
	case toShut:
		c.shut(e)
	case toHead:
		c.loadHead(e)
	case toMove:
		c.moveOn(e)
	case toLeave:
		c.turn(e, api.ChunkOpen)
		c.work.Left++
		c.finish()
	case toDate:
		c.epoch = e.Load(layout.Epoch())
		c.next = toNote
	case toNote:
		e.Store(c.wordAt(e)+sinceAt, c.epoch)
		c.next = toQuiet
	case toQuiet:
		c.turn(e, api.ChunkQuiet)
		c.work.Evacuated++
		c.finish()
	}
}

// shut lets nobody get words of the chunk any more, if its word is still the one that was seen: else it may not be sparse by now.
func (c *Compactor) shut(e layout.Env) {
	seen := word.PutChunk(c.was)
	c.was = turned(c.was, api.ChunkEvac)
	if !e.Cas(c.wordAt(e), seen, word.PutChunk(c.was)) {
		c.finish()
		return
	}
	c.passed = 0
	c.next = toHead
}

// loadHead loads the next object's head. One that has no head yet, or is about to be shown, may come to live there.
func (c *Compactor) loadHead(e layout.Env) {
	at := layout.Base(e.C, c.chunk) + c.passed
	h := word.Head(e.Load(at))
	switch {
	case h.Kind == api.HeadDead:
		c.pass()
	case h.Kind == api.HeadReady && c.whole(e, h):
		c.move = *move.New(at, h)
		c.next = toMove
	default:
		c.next = toLeave
	}
}

// moveOn moves the object, and goes on behind one that is there no more.
func (c *Compactor) moveOn(e layout.Env) {
	if !c.move.Step(e) {
		return
	}
	switch c.move.Out() {
	case api.MoveDone:
		c.work.Moved++
		c.pass()
	case api.MoveDead:
		c.pass()
	default:
		c.next = toLeave
	}
}

// pass goes on to the next object. It goes by the chunk's class, as an object takes as many words as that has, whatever its size; in a chunk of no class nobody knows where the next one is.
func (c *Compactor) pass() {
	room := layout.Room(c.was.Class)
	c.passed += room
	c.next = toHead
	if room == 0 {
		c.next = toLeave
	}
}

// turn lays the chunk's word in another state: nobody else changes it while it is evacuated.
func (c *Compactor) turn(e layout.Env, state int) {
	c.was = turned(c.was, state)
	e.Store(c.wordAt(e), word.PutChunk(c.was))
}

// turned is a chunk in another state, its Stamp one more.
func turned(c api.Chunk, state int) api.Chunk {
	c.State = state
	c.Stamp++
	return c
}

// whole is whether all words of an object were given out: else they are nobody's, or another chunk's. One of a size that is none has no words that are moved.
func (c *Compactor) whole(e layout.Env, h api.Head) bool {
	return layout.Class(h.Size) < 0 || c.passed+h.Size < c.given(e)
}

// given is how many words of the chunk were given out; what its word tells beyond its end is the next chunk's.
func (c *Compactor) given(e layout.Env) int {
	return min(c.was.Used, e.C.Words)
}

// wordAt is where the chunk's word stands.
func (c *Compactor) wordAt(e layout.Env) int {
	return layout.Chunk(e.C, c.chunk)
}
