package play_test

import (
	"fmt"

	"concordat/api"
	"concordat/mesh"
	"concordat/play"
)

// Replica 0 makes a node, and writes into it; replica 1 asks for that, and gets it.
func ExampleRun() {
	m, _ := mesh.New(3)
	fmt.Println(play.Run(m, []int{0, 16*(3*10) + 4, 16 + 11, 12, 12, 12, -1}))
	r, _ := m.Replica(1)
	fmt.Println(r.State())
	// Output:
	// [0 0 0 0 0 6 -1]
	// 4 in 0 a
	// 4 text k
}

func ExampleMerge() {
	a := api.Op{S: api.Stamp{Time: 1}, N: 1, Kind: api.Move, Node: 4, Name: "a"}
	b := api.Op{S: api.Stamp{Time: 2}, N: 2, Kind: api.Move, Node: 8, Other: 4, Name: "b"}
	fmt.Println(play.Merge([][]api.Op{{a}, {b, a}}))
	_, err := play.Merge([][]api.Op{nil, {b}, {a}})
	fmt.Println(err, err.(*api.Fault).At)
	// Output:
	// 4 in 0 a
	// 8 in 4 b <nil>
	// concordat: gap 1
}
