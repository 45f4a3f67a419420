package journal_test

import (
	"fmt"

	"concordat/api"
	"concordat/journal"
)

// Power fails while the second operation is written: the first one is recovered.
func Example() {
	d, _ := journal.NewDisk("")
	fmt.Println(journal.Append(d, api.Op{S: api.Stamp{Time: 1, By: 1}, N: 1, Kind: api.Move, Node: 5, Name: "notes"}))
	fmt.Printf("%q\n", d.Bytes())

	d.Cut(6)
	fmt.Println(journal.Append(d, api.Op{S: api.Stamp{Time: 2, By: 1}, N: 2, Kind: api.Insert, Node: 5, Value: "H"}))
	fmt.Printf("%v %q\n", d.Power(), d.Bytes())

	l, err := journal.Recover(d)
	fmt.Println(len(l), err)
	fmt.Printf("%v %q\n", d.Power(), d.Bytes())
	// Output:
	// <nil>
	// "m|1|1|1|5|0|notes|#1b192407\n"
	// concordat: off
	// false "m|1|1|1|5|0|notes|#1b192407\ni|2|1|"
	// 1 <nil>
	// true "m|1|1|1|5|0|notes|#1b192407\n"
}
