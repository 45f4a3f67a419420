package tree_test

import (
	"fmt"

	"concordat/api"
	"concordat/tree"
)

func Example() {
	t := tree.New()
	made := api.Op{S: api.Stamp{Time: 1, By: 0}, N: 1, Kind: api.Move, Node: 4, Other: api.Root, Name: "a"}
	other := api.Op{S: api.Stamp{Time: 1, By: 1}, N: 1, Kind: api.Move, Node: 5, Other: api.Root, Name: "b"}
	here := api.Op{S: api.Stamp{Time: 2, By: 0}, N: 2, Kind: api.Move, Node: 4, Other: 5, Name: "a"}
	there := api.Op{S: api.Stamp{Time: 2, By: 1}, N: 2, Kind: api.Move, Node: 5, Other: 4, Name: "b"}
	for _, o := range []api.Op{made, other, there, here} {
		if err := t.Apply(o); err != nil {
			return
		}
	}
	fmt.Println(t.Places(), t.Moves(), t.Inside(4, api.Root))
	// Output: [{4 5 a} {5 0 b}] 4 true
}
