package line_test

import (
	"fmt"

	"concordat/line"
)

// Two replicas write X and Y at the beginning of one text, with stamps (5, 0) and (5, 1).
func Example() {
	l := line.New()
	for _, err := range []error{l.Insert(21, 0, 'Y'), l.Insert(20, 0, 'X'), l.Insert(24, 20, '!')} {
		if err != nil {
			return
		}
	}
	fmt.Println(l.Text(), l.IDs())
	if err := l.Delete(20); err != nil {
		return
	}
	fmt.Println(l.Text(), l.IDs())
	fmt.Println(l.At(1))
	// Output:
	// YX! [21 20 24]
	// Y! [21 20 24]
	// 24 true
}
