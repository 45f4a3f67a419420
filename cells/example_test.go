package cells_test

import (
	"fmt"

	"concordat/api"
	"concordat/cells"
)

// A mark with a lesser stamp than the one that stands there changes nothing.
func Example() {
	here, there := cells.New(), cells.New()
	red := api.Op{S: api.Stamp{Time: 5, By: 1}, N: 1, Kind: api.Set, Node: 4, Name: "color", Value: "red"}
	blue := api.Op{S: api.Stamp{Time: 5, By: 0}, N: 1, Kind: api.Set, Node: 4, Name: "color", Value: "blue"}
	done := api.Op{S: api.Stamp{Time: 6, By: 0}, N: 2, Kind: api.Set, Node: 4, Name: "done", Value: "yes"}
	fmt.Println(here.Set(red))
	fmt.Println(here.Set(blue))
	fmt.Println(there.Set(blue))
	fmt.Println(there.Set(done))
	fmt.Println(here.Get(4, "color"))
	fmt.Println(cells.Join(there, here).Marks())
	// Output:
	// true <nil>
	// false <nil>
	// true <nil>
	// true <nil>
	// red {5 1} true
	// [{4 color red} {4 done yes}]
}
