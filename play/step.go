package play

import (
	"strconv"

	"concordat/api"
	"concordat/mesh"
)

const (
	kinds   = 16
	players = 3 // how many replicas play, however many the mesh has
	notes   = 4 // only the first ones of those that fly are touched
	cuts    = 200
	places  = 5 // in a text
	names   = 4
	letters = 26
	digits  = 10
)

// step of a play: what is done, by which replica, and the number from which the rest is taken.
type step struct{ kind, n, k int }

// stepOf a number that is not below 0.
func stepOf(v int) step {
	q := v / kinds
	return step{kind: v % kinds, n: q % players, k: q / players}
}

func (s step) play(m *mesh.Mesh) error {
	switch s.kind {
	case 9, 10:
		return m.Ask(s.n, (s.n+1)%players)
	case 11:
		return m.Ask(s.n, (s.n+players-1)%players)
	case 12:
		return m.Deliver(s.k % notes)
	case 13:
		if s.k%2 == 1 {
			return m.Twice(s.k / 2 % notes)
		}
		return m.Drop(s.k / 2 % notes)
	case 14:
		return m.Cut(s.n, s.k%cuts)
	case 15:
		return m.Boot(s.n)
	}
	_, err := m.Do(s.n, s.wish(nodesOf(m, s.n)))
	return err
}

// wish: what Do is asked for, of the kinds that are an operation, where there are these nodes.
func (s step) wish(nodes []int) api.Op {
	x, y := nodes[s.k%len(nodes)], nodes[s.k/8%len(nodes)]
	switch s.kind {
	case 0, 1:
		return api.Op{Kind: api.Move, Other: x, Name: letter(s.k % names)}
	case 2:
		return api.Op{Kind: api.Move, Node: y, Other: x, Name: letter(s.k % names)}
	case 3:
		return api.Op{Kind: api.Move, Node: y, Other: api.Trash, Name: "t"}
	case 4, 5, 6:
		return api.Op{Kind: api.Insert, Node: y, Other: s.k % places, Value: letter(s.k % letters)}
	case 7:
		return api.Op{Kind: api.Delete, Node: y, Other: s.k % places}
	}
	return api.Op{Kind: api.Set, Node: y, Name: "m", Value: "v" + strconv.Itoa(s.k%digits)}
}

// letter number n, from a on.
func letter(n int) string { return string(rune('a' + n)) }

// nodesOf a replica that may be chosen. There is always one: Root, also where the mesh has no such replica, which the step itself tells then.
func nodesOf(m *mesh.Mesh, n int) []int {
	nodes := []int{api.Root}
	r, err := m.Replica(n)
	if err != nil {
		return nodes
	}
	for _, p := range r.Tree().Places() {
		nodes = append(nodes, p.Node)
	}
	return nodes
}
