package replica

import (
	"cmp"
	"slices"

	"concordat/api"
	"concordat/op"
	"concordat/stamp"
	"concordat/vector"
)

// known operations of each replica, by N: none is left out, and their stamps rise.
type known [api.Replicas][]api.Op

func (k known) vector() vector.Vector {
	var v vector.Vector
	for by, l := range k {
		v[by] = len(l)
	}
	return v
}

func (k known) count() int {
	n := 0
	for _, l := range k {
		n += len(l)
	}
	return n
}

// all of them by stamp, in new memory.
func (k known) all() []api.Op { return op.Sort(slices.Concat(k[:]...)) }

// number n of a replica.
func (k known) number(by, n int) (api.Op, bool) {
	if n > len(k[by]) {
		return api.Op{}, false
	}
	return k[by][n-1], true
}

// find the operation of an id.
func (k known) find(id int) (api.Op, bool) {
	s, err := stamp.Of(id)
	if err != nil {
		return api.Op{}, false
	}
	l := k[s.By]
	at, is := slices.BinarySearchFunc(l, s.Time, func(o api.Op, time int) int { return cmp.Compare(o.S.Time, time) })
	if !is {
		return api.Op{}, false
	}
	return l[at], true
}

// isNode: is this a node that is known?
func (k known) isNode(id int) bool {
	o, is := k.find(id)
	return is && o.Kind == api.Move && o.Node == id
}

// isPlace: may nodes go into this one?
func (k known) isPlace(id int) bool { return id == api.Root || id == api.Trash || k.isNode(id) }

// isLetter: is this a letter of the node that is known?
func (k known) isLetter(node, id int) bool {
	o, is := k.find(id)
	return is && o.Kind == api.Insert && o.Node == node
}

// bears: are the things that a right operation names known? They have lesser ids than its own (its new node aside), so that what is known of them is known ahead of it.
func (k known) bears(o api.Op) bool {
	if !k.isNode(o.Node) {
		return false
	}
	switch o.Kind {
	case api.Move:
		return k.isPlace(o.Other)
	case api.Insert:
		return o.Other == 0 || k.isLetter(o.Node, o.Other)
	case api.Delete:
		return k.isLetter(o.Node, o.Other)
	}
	return true
}
