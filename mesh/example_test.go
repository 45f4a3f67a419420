package mesh_test

import (
	"fmt"

	"concordat/api"
	"concordat/mesh"
)

// Replica 1 asks replica 0, and forgets what its disk could not keep; behind Calm it knows all again.
func Example() {
	m, _ := mesh.New(3)
	made, err := m.Do(0, api.Op{Kind: api.Move, Other: api.Root, Name: "notes"})
	fmt.Println(made.Node, err)
	m.Do(0, api.Op{Kind: api.Insert, Node: made.Node, Other: 0, Value: "H"})

	m.Ask(1, 0)
	m.Deliver(0)
	for _, n := range m.Flying() {
		fmt.Println(n.From, n.To, n.Ask, len(n.Ops))
	}
	m.Cut(1, 40)
	fmt.Println(m.Deliver(0))
	r, _ := m.Replica(1)
	fmt.Printf("%q\n", r.State())

	fmt.Println(m.Boot(1))
	r, _ = m.Replica(1)
	fmt.Printf("%q\n", r.State())

	fmt.Println(m.Calm())
	fmt.Printf("%q\n", r.State())
	// Output:
	// 4 <nil>
	// 0 1 false 2
	// concordat: off
	// "4 in 0 notes\n4 text H"
	// <nil>
	// "4 in 0 notes"
	// true
	// "4 in 0 notes\n4 text H"
}
