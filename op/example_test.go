package op_test

import (
	"fmt"

	"concordat/api"
	"concordat/op"
)

func Example() {
	first := api.Op{S: api.Stamp{Time: 1, By: 1}, N: 1, Kind: api.Move, Node: 5, Other: api.Root, Name: "notes"}
	text, err := op.Text(first)
	fmt.Println(op.ID(first), text, err)

	second, err := op.Read("i|2|0|1|5|0||48")
	fmt.Println(second.Value, err)

	for _, o := range op.Sort([]api.Op{second, first}) {
		fmt.Println(op.ID(o))
	}
	// Output:
	// 5 m|1|1|1|5|0|notes| <nil>
	// H <nil>
	// 5
	// 8
}
