package worker

import (
	"footlocker/act"
	"footlocker/api"
	"footlocker/layout"
	"footlocker/list"
	"footlocker/shelf"
)

// doer is whoever does a call step by step.
type doer interface {
	Step(e layout.Env) bool
	Done() api.Done
}

// Check tells whether a call may be.
func Check(c api.Call) bool {
	if asks(c) {
		return list.Check(asked(c), c.Key)
	}
	return act.Check(acts(c, 0))
}

// asks is whether a call asks something of the shelf; any other one is an act.
func asks(c api.Call) bool {
	return c.Kind >= api.CallHas && c.Kind <= api.CallRemove
}

// asked is the kind of what such a call asks of a list.
func asked(c api.Call) int {
	return c.Kind - api.CallHas + api.ListHas
}

// acts is the act that a call is, with a handle.
func acts(c api.Call, handle uint64) api.Act {
	// The kinds of acts have the same numbers as those of the calls.
	return api.Act{Kind: c.Kind, Size: c.Size, Handle: handle, Index: c.Index, Value: c.Value, Old: c.Old}
}

// whoDoes is whoever of the layers below does a call.
func whoDoes(c api.Call, handle uint64, s *shelf.Shelf) doer {
	// Just calls that may be came in: there is no error.
	if asks(c) {
		l, _ := s.New(asked(c), c.Key)
		return l
	}
	a, _ := act.New(acts(c, handle))
	return a
}
