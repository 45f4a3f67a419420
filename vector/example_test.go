package vector_test

import (
	"fmt"

	"concordat/vector"
)

func Example() {
	here, err := vector.Read("3.0.1.0")
	if err != nil {
		return
	}
	there := vector.Vector{1, 2, 1, 0}
	fmt.Println(vector.Order(here, there), vector.Lacks(here, there))
	both := vector.Join(here, there)
	fmt.Println(both.Text(), vector.Covers(both, here), vector.Order(there, both))
	// Output:
	// 2 2
	// 3.2.1.0 true -1
}
