package script_test

import (
	"fmt"

	"concordat/script"
)

// Two replicas write at the beginning of one text, and meet.
func ExampleRun() {
	lines := []string{"make 0 0 notes", "calm", "write 0 4 0 x", "write 1 4 0 y", "state 0", "ask 0 1", "go 0", "go 0", "state 0", "find 0 /notes", "go 0", "stop"}
	answers, err := script.Run(lines)
	fmt.Println(err)
	for i, a := range answers {
		fmt.Println(lines[i], "->", a)
	}
	// Output:
	// <nil>
	// make 0 0 notes -> 4
	// calm -> yes
	// write 0 4 0 x -> 8
	// write 1 4 0 y -> 9
	// state 0 -> 4 in 0 notes; 4 text x
	// ask 0 1 -> ok
	// go 0 -> ok
	// go 0 -> ok
	// state 0 -> 4 in 0 notes; 4 text yx
	// find 0 /notes -> 4
	// go 0 -> concordat: none
	// stop -> concordat: text
}
