package drop

import (
	"footlocker/api"
	"footlocker/layout"
	"footlocker/word"
)

// Help is somebody who brings to its end that an object is let go: its cells are frozen, and then it lives no more.
type Help struct {
	slot   int
	was    uint64 // the slot's word
	size   int    // the object's
	cell   int    // how many of its cells are frozen
	seen   uint64 // the next one, as it was loaded
	loaded bool   // whether it was
	over   bool
	won    bool
}

// NewHelp is one who does that to the object of a slot, with that word, of a size.
func NewHelp(slot int, w uint64, size int) *Help {
	return &Help{slot: slot, was: w, size: size}
}

// Won tells whether it ended by this one's step.
func (h *Help) Won() bool {
	return h != nil && h.won
}

// Step does a step: whether it is done.
func (h *Help) Step(e layout.Env) bool {
	if h == nil || h.over {
		return true
	}
	s := word.Slot(h.was)
	switch {
	case !stands(e, h.slot) || !lives(s):
		// Where no object is, nothing is brought to its end.
		h.over = true
	case h.cell >= h.cells(e, s):
		h.end(e, s)
	case h.loaded:
		h.freeze(e, s)
	default:
		h.load(e, s)
	}
	return h.over
}

// load loads the next cell, and passes over one that is frozen already. One that is frozen in another move is not: a thread that saw a later version could lay it.
func (h *Help) load(e layout.Env, s api.Slot) {
	h.seen = e.Load(h.at(s))
	c := word.Cell(h.seen)
	if c.Frozen && c.Ver == s.Ver {
		h.cell++
		return
	}
	h.loaded = true
}

// freeze freezes the cell, if it is still what was loaded; else it is loaded anew.
func (h *Help) freeze(e layout.Env, s api.Slot) {
	c := api.Cell{Value: word.Cell(h.seen).Value, Frozen: true, Ver: s.Ver}
	if e.Cas(h.at(s), h.seen, word.PutCell(c)) {
		h.cell++
	}
	h.loaded = false
}

// end ends the object's life, if nobody did so meanwhile.
func (h *Help) end(e layout.Env, s api.Slot) {
	h.won = e.Cas(layout.Slot(e.C, h.slot), h.was, word.PutSlot(behind(e.C, s)))
	h.over = true
}

// at is where the next cell stands: the cells stand behind the head.
func (h *Help) at(s api.Slot) int {
	return s.Addr + 1 + h.cell
}

// cells is how many cells the object has; 0, if such an object can't stand there: what stands there is something else's.
func (h *Help) cells(e layout.Env, s api.Slot) int {
	chunk := layout.Of(e.C, s.Addr)
	if layout.Class(h.size) < 0 || chunk < 0 || layout.Of(e.C, s.Addr+h.size) != chunk {
		return 0
	}
	return h.size
}

// behind is what a slot's word is behind the life of its object.
func behind(c api.Config, s api.Slot) api.Slot {
	if last(c, s.Gen) {
		return api.Slot{State: api.StateRetired, Gen: s.Gen}
	}
	return api.Slot{State: api.StateFree, Gen: s.Gen + 1}
}

// last is whether a life of a slot is its last one.
func last(c api.Config, gen int) bool {
	return gen >= c.Gens
}
