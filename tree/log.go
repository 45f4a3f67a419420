package tree

import (
	"slices"

	"concordat/api"
	"concordat/stamp"
)

// entry of the log: a move, and where its node lay ahead of it (zero: in nothing), so that it can be undone.
type entry struct {
	s        api.Stamp
	to, from Place
}

// find where a stamp stands in the log, or would stand. Most moves are later than all that came: the way from the end is short.
func (t *Tree) find(s api.Stamp) (int, bool) {
	for i, e := range slices.Backward(t.log) {
		if e.s == s {
			return i, true
		}
		if stamp.Less(e.s, s) {
			return i + 1, false
		}
	}
	return 0, false
}

// undoFrom makes the places what they were ahead of entry number at. A move that did nothing left its node where it lay: it is undone like the others.
func (t *Tree) undoFrom(at int) {
	for _, e := range slices.Backward(t.log[at:]) {
		if e.from == (Place{}) {
			delete(t.places, e.to.Node)
		} else {
			t.places[e.to.Node] = e.from
		}
	}
}

// doFrom makes the moves from entry number at on, one behind the other.
func (t *Tree) doFrom(at int) {
	for i := at; i < len(t.log); i++ {
		to := t.log[i].to
		t.log[i].from = t.places[to.Node]
		if to.Node != to.In && !t.Inside(to.In, to.Node) {
			t.places[to.Node] = to
		}
	}
}
