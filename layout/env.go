package layout

import (
	"footlocker/api"
	"footlocker/mem"
)

// Env is an arena, and who works in it.
type Env struct {
	C   api.Config
	M   *mem.Mem
	Who int
}

// Load is a word of the arena; 0: there is none.
func (e Env) Load(a int) uint64 {
	e.M.By(e.Who)
	w, _ := e.M.Load(a)
	return w
}

// Store lays a word of the arena.
func (e Env) Store(a int, w uint64) {
	e.M.By(e.Who)
	e.M.Store(a, w)
}

// Cas lays a word of the arena, if another one is there: whether it was.
func (e Env) Cas(a int, old, w uint64) bool {
	e.M.By(e.Who)
	is, _ := e.M.Cas(a, old, w)
	return is
}

// Add adds to a word of the arena.
func (e Env) Add(a, d int) {
	e.M.By(e.Who)
	// What is below 0 wraps round, and so takes away.
	e.M.Add(a, uint64(d))
}

// Now is the step that was done last.
func (e Env) Now() int {
	return e.M.Steps()
}
