package stamp_test

import (
	"fmt"

	"concordat/api"
	"concordat/stamp"
)

func Example() {
	c, err := stamp.New(2)
	if err != nil {
		return
	}
	first, _ := c.Tick()
	c.Hear(api.Stamp{Time: 8, By: 0})
	second, _ := c.Tick()
	id, _ := stamp.ID(second)
	fmt.Println(first, second, stamp.Less(first, second), id)
	// Output: {1 2} {9 2} true 38
}
