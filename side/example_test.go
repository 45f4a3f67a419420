package side_test

import (
	"fmt"

	"concordat/api"
	"concordat/side"
)

// Two scripts by four workers: in the first one replica 0 makes a node; in the other one replica 1 does, and 2 asks it for that.
func ExamplePlays() {
	l, err := side.Plays([][]int{{0}, {16, 16*2 + 11, 12, 12, -1}}, 4)
	fmt.Println(err)
	for _, told := range l {
		fmt.Printf("%v %q\n", told.Answers, told.States)
	}
	// Output:
	// <nil>
	// [0] ["4 in 0 a" "" ""]
	// [0 0 0 0 -1] ["" "5 in 0 a" "5 in 0 a"]
}

func ExampleMerges() {
	a := api.Op{S: api.Stamp{Time: 1}, N: 1, Kind: api.Move, Node: 4, Name: "a"}
	b := api.Op{S: api.Stamp{Time: 2}, N: 2, Kind: api.Move, Node: 8, Other: 4, Name: "b"}
	l, err := side.Merges([][][]api.Op{{{a}, {b, a}}, nil, {{a}}}, 2)
	fmt.Printf("%q %v\n", l, err)
	_, err = side.Merges([][][]api.Op{{{a}}, {{a}, nil, {b}}, {nil, {b}}}, 2)
	fmt.Println(err, err.(*api.Fault).At)
	// Output:
	// ["4 in 0 a\n8 in 4 b" "" "4 in 0 a"] <nil>
	// concordat: gap 2
}
