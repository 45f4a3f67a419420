package replica

import (
	"concordat/api"
	"concordat/op"
)

// newNode stands for the node that an operation makes: no operation is about Root.
const newNode = api.Root

// own operation: this one as the replica would make it next.
func (r *Replica) own(o api.Op) (api.Op, error) {
	if r.known.count() >= api.MaxOps {
		return api.Op{}, api.ErrFull
	}
	s, err := r.next()
	if err != nil {
		return api.Op{}, err
	}
	o.S, o.N = s, len(r.known[s.By])+1
	if o.Node == newNode {
		o.Node = op.ID(o)
	}
	if err := op.Check(o); err != nil {
		return api.Op{}, err
	}
	return o, nil
}

// Make a new node.
func (r *Replica) Make(into int, name string) (api.Op, error) {
	if !r.known.isPlace(into) {
		return api.Op{}, api.ErrNone
	}
	return r.own(api.Op{Kind: api.Move, Node: newNode, Other: into, Name: name})
}

// Move a node.
func (r *Replica) Move(node, into int, name string) (api.Op, error) {
	if !r.known.isNode(node) || !r.known.isPlace(into) {
		return api.Op{}, api.ErrNone
	}
	o, err := r.own(api.Op{Kind: api.Move, Node: node, Other: into, Name: name})
	if err != nil {
		return api.Op{}, err
	}
	if into == node || r.tree.Inside(into, node) {
		return api.Op{}, api.ErrCycle
	}
	return o, nil
}

// Write a letter.
func (r *Replica) Write(node, at int, letter byte) (api.Op, error) {
	behind, is := 0, r.known.isNode(node)
	if at != 0 {
		behind, is = r.letter(node, at-1)
	}
	if !is {
		return api.Op{}, api.ErrNone
	}
	return r.own(api.Op{Kind: api.Insert, Node: node, Other: behind, Value: string([]byte{letter})})
}

// Erase a letter.
func (r *Replica) Erase(node, at int) (api.Op, error) {
	id, is := r.letter(node, at)
	if !is {
		return api.Op{}, api.ErrNone
	}
	return r.own(api.Op{Kind: api.Delete, Node: node, Other: id})
}

// Mark a node.
func (r *Replica) Mark(node int, name, value string) (api.Op, error) {
	if !r.known.isNode(node) {
		return api.Op{}, api.ErrNone
	}
	return r.own(api.Op{Kind: api.Set, Node: node, Name: name, Value: value})
}

// letter number at of those that are seen in a node.
func (r *Replica) letter(node, at int) (int, bool) {
	l, is := r.texts[node]
	if !is {
		return 0, false
	}
	return l.At(at)
}
