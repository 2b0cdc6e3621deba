package model

import (
	"footlocker/api"
	"footlocker/layout"
)

// once does a call at once: what comes of it; false: nothing comes of what was told.
func (m *Model) once(t api.Told) (api.Done, bool) {
	c := t.Call
	switch c.Kind {
	case api.CallAlloc:
		return m.alloc(c.Size, t.Done)
	case api.CallFree:
		return m.free(t.Handle), true
	case api.CallRead, api.CallWrite, api.CallCas:
		return m.access(t.Handle, c), true
	case api.CallHas:
		return told(m.has(c.Key)), true
	case api.CallAdd:
		return m.add(c.Key, t.Done.E), true
	case api.CallRemove:
		return m.remove(c.Key), true
	}
	return api.Done{}, false
}

// alloc makes an object by the handle that was told; false: nothing comes of what was said.
func (m *Model) alloc(size int, said api.Done) (api.Done, bool) {
	if layout.Class(size) < 0 {
		return api.Done{E: api.ErrSize}, true
	}
	if noRoom(said.E) {
		return api.Done{E: said.E}, true
	}
	_, lives := m.objects[said.Handle]
	if said.E != api.OK || said.Handle == 0 || lives {
		return api.Done{}, false
	}
	m.objects[said.Handle] = make([]int, size)
	return api.Done{Handle: said.Handle}, true
}

// free lets an object go.
func (m *Model) free(handle uint64) api.Done {
	_, lives := m.objects[handle]
	delete(m.objects, handle)
	return api.Done{E: either(lives, api.OK, api.ErrInvalid)}
}

// access reads, lays or exchanges a word of an object.
func (m *Model) access(handle uint64, c api.Call) api.Done {
	words, lives := m.objects[handle]
	if !lives {
		return api.Done{E: api.ErrInvalid}
	}
	if c.Index < 0 || c.Index >= len(words) {
		return api.Done{E: api.ErrIndex}
	}
	was := words[c.Index]
	other := c.Kind == api.CallCas && was != c.Old
	reads := c.Kind == api.CallRead || other
	words[c.Index] = either(reads, was, c.Value)
	return api.Done{E: either(other, api.ErrOther, api.OK), Value: was}
}

// has tells whether a key is there.
func (m *Model) has(key int) bool {
	_, is := m.keys[key]
	return is
}

// add lets a key come in, unless there was no room for it.
func (m *Model) add(key int, said api.Errno) api.Done {
	if noRoom(said) {
		return api.Done{E: said}
	}
	is := m.has(key)
	m.keys[key] = struct{}{}
	return told(!is)
}

// remove lets a key go.
func (m *Model) remove(key int) api.Done {
	is := m.has(key)
	delete(m.keys, key)
	return told(is)
}

// noRoom tells errors that may be told in the place of an object or a key.
func noRoom(e api.Errno) bool {
	return e == api.ErrMemory || e == api.ErrHandles
}

// told is what is told of a key, if that is so, and if not.
func told(is bool) api.Done {
	return api.Done{Value: either(is, 1, 0)}
}

// either is one thing, if that is so, or else the other one.
func either[T any](is bool, one, other T) T {
	if is {
		return one
	}
	return other
}
