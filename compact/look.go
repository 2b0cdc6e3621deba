package compact

import (
	"footlocker/api"
	"footlocker/layout"
	"footlocker/policy"
	"footlocker/word"
)

// look looks at all chunks, one behind the other, and then at the classes.
func (c *Compactor) look(e layout.Env) {
	// Chunks that the arena has no more are not looked at: where their words would stand is something else's.
	if c.next != toOpen && c.at >= e.C.Chunks {
		c.lookAtClasses()
	}
	switch c.next {
	case toSee:
		c.see(e)
	case toCount:
		c.count(e)
	case toOpen:
		c.open(e)
	}
}

// see loads a chunk's word.
func (c *Compactor) see(e layout.Env) {
	w := e.Load(layout.Chunk(e.C, c.at))
	c.seen = append(c.seen, api.Seen{Chunk: word.Chunk(w)})
	c.next = toCount
}

// count loads how many of its words live.
func (c *Compactor) count(e layout.Env) {
	c.seen[c.at].Live = int(e.Load(layout.Chunk(e.C, c.at) + liveAt))
	c.at++
	c.next = toSee
	if c.at >= e.C.Chunks {
		c.lookAtClasses()
	}
}

// lookAtClasses lets the classes be looked at next, from the first on.
func (c *Compactor) lookAtClasses() {
	c.at = 0
	c.next = toOpen
}

// open loads which chunk is the open one of a class. One that is of another class by now is not: it was free meanwhile, and no words of it are given out to this class any more.
func (c *Compactor) open(e layout.Env) {
	first := e.Load(layout.Open(c.at))
	// None is 0, and so comes to be greater than all.
	if i := first - 1; i < uint64(len(c.seen)) && c.seen[i].Chunk.Class == c.at {
		c.seen[i].Open = true
	}
	c.at++
	if c.at >= api.Classes {
		c.choose(e)
	}
}

// choose chooses a chunk, by what was seen.
func (c *Compactor) choose(e layout.Env) {
	seen := c.seen
	c.seen = nil
	c.chunk = policy.Choose(e.C, seen)
	if c.chunk < 0 {
		c.finish()
		return
	}
	c.was = seen[c.chunk].Chunk
	c.next = toShut
}
