package list

import (
	"footlocker/api"
)

// A link's bits: the next node's handle, and the one that says that the node is to go.
const (
	mostNext = 1<<32 - 1
	goneBit  = 1 << 32
)

// PutLink is a link as a value.
func PutLink(l api.Link) int {
	// What is too great for a handle must not reach into the bit behind it.
	n := int(min(l.Next, mostNext))
	if l.Gone {
		n |= goneBit
	}
	return n
}

// Link is the link of a value.
func Link(n int) api.Link {
	return api.Link{Next: uint64(n) & mostNext, Gone: n&goneBit != 0}
}

// spot is a node, and its link, as it was read or laid.
type spot struct {
	node  uint64 // its handle
	link  int    // as a value
	stamp int    // the step at which it was read or laid
}

// next is the node to which the link leads; 0: none.
func (s spot) next() uint64 {
	return Link(s.link).Next
}

// gone is whether the node is to go.
func (s spot) gone() bool {
	return Link(s.link).Gone
}

// leads is the link, when it leads to another node. Whether its own node is to go stays as it is.
func (s spot) leads(next uint64) int {
	return PutLink(api.Link{Next: next, Gone: s.gone()})
}

// goes is the link, when its node is to go.
func (s spot) goes() int {
	return PutLink(api.Link{Next: s.next(), Gone: true})
}
