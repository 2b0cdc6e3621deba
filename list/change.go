package list

import (
	"footlocker/api"
)

// found: the key is there. Its node was not to go when its link was read.
func (l *List) found() {
	switch l.kind {
	case api.ListRemove:
		l.next = toMark
	case api.ListAdd:
		l.end(api.Done{Stamp: l.here.stamp})
	default:
		l.end(api.Done{Value: 1, Stamp: l.here.stamp})
	}
}

// missing: the key is not there. When the link ahead was read, or laid, it led past where the key would stand.
func (l *List) missing() {
	switch {
	case l.kind != api.ListAdd:
		l.end(api.Done{Stamp: l.ahead.stamp})
	case l.made == 0:
		l.next = toMake
	default:
		// The node has its key already: just where its link leads may be another one.
		l.next = toAim
	}
}

// gotNode: a node was to be made.
func (l *List) gotNode(d api.Done) {
	if d.E != api.OK {
		l.fail(d)
		return
	}
	l.made = d.Handle
	l.next = toName
}

// wrote: a word of the node that was made was to be written. Nobody else knows that node: an error is told, and not tried again and again.
func (l *List) wrote(d api.Done, next int) {
	if d.E != api.OK {
		l.fail(d)
		return
	}
	l.next = next
}

// showed: the link ahead was to lead to the node that was made.
func (l *List) showed(d api.Done) {
	if d.E != api.OK {
		l.anew()
		return
	}
	l.made = 0
	l.end(api.Done{Value: 1, Stamp: d.Stamp})
}

// marked: the link of the key's node was to say that it is to go.
func (l *List) marked(d api.Done) {
	if d.E != api.OK {
		l.anew()
		return
	}
	// From here on the key is not there, whatever comes of the node.
	l.came = api.Done{Value: 1, Stamp: d.Stamp}
	l.next = toUnlink
}

// unlinked: the link ahead was to lead past the node that is to go. If it did not, whoever comes upon that node lets it go.
func (l *List) unlinked(d api.Done) {
	l.next = done
	if d.E == api.OK {
		l.next = toFree
	}
}
