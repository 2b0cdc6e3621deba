package list

import (
	"footlocker/api"
)

// sawFirst: the first node's link was read.
func (l *List) sawFirst(d api.Done) {
	if d.E != api.OK {
		l.fail(d)
		return
	}
	l.ahead = spot{node: l.head, link: d.Value, stamp: d.Stamp}
	l.reach()
}

// reach goes on to the node to which the link ahead leads.
func (l *List) reach() {
	l.here = spot{node: l.ahead.next()}
	if l.here.node == 0 {
		l.missing()
		return
	}
	l.next = toLink
}

// sawLink: the link of the node that is looked at was read.
func (l *List) sawLink(d api.Done) {
	if d.E != api.OK {
		l.anew()
		return
	}
	l.here.link = d.Value
	l.here.stamp = d.Stamp
	l.next = toKey
	if l.here.gone() {
		l.next = toPass
	}
}

// passed: the link ahead was to lead past a node that is to go. Whoever does that lets the node go, so that it is let go once.
func (l *List) passed(d api.Done) {
	if d.E != api.OK {
		l.anew()
		return
	}
	l.ahead.link = l.ahead.leads(l.here.next())
	l.ahead.stamp = d.Stamp
	l.next = toClear
}

// sawKey: the key of the node that is looked at was read.
func (l *List) sawKey(d api.Done) {
	switch {
	case d.E != api.OK:
		l.anew()
	case d.Value < l.key:
		l.ahead = l.here
		l.reach()
	case d.Value == l.key:
		l.found()
	default:
		l.missing()
	}
}

// anew begins anew at the first node.
func (l *List) anew() {
	l.next = toFirst
}
