package list

import (
	"footlocker/api"
)

// Where a node's words stand.
const (
	keyAt  = 0
	linkAt = 1
)

// read reads a word of a node.
func read(node uint64, index int) api.Act {
	return api.Act{Kind: api.ActRead, Handle: node, Index: index}
}

// write writes a word of a node.
func write(node uint64, index, value int) api.Act {
	return api.Act{Kind: api.ActWrite, Handle: node, Index: index, Value: value}
}

// swap lays a node's link, if it is still the one that was seen.
func swap(s spot, link int) api.Act {
	return api.Act{Kind: api.ActCas, Handle: s.node, Index: linkAt, Value: link, Old: s.link}
}

// free lets a node go.
func free(node uint64) api.Act {
	return api.Act{Kind: api.ActFree, Handle: node}
}
