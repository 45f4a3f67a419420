package replica_test

import (
	"fmt"

	"concordat/api"
	"concordat/replica"
)

// do an operation that a replica told as its next one.
func do(r *replica.Replica, o api.Op, err error) {
	if err == nil {
		_, err = r.Join([]api.Op{o})
	}
	if err != nil {
		fmt.Println(err)
	}
}

// Two replicas go on by themselves, and meet.
func Example() {
	a, _ := replica.New(0)
	b, _ := replica.New(1)
	o, err := a.Make(api.Root, "notes")
	do(a, o, err)
	node := o.Node
	b.Join(a.Diff(b.Vector()))

	o, err = a.Write(node, 0, 'X')
	do(a, o, err)
	o, err = b.Write(node, 0, 'Y')
	do(b, o, err)
	o, err = b.Mark(node, "color", "red")
	do(b, o, err)
	fmt.Println(a.Text(node), a.Vector().Text(), b.Text(node), b.Vector().Text())

	fmt.Println(a.Join(b.Diff(a.Vector())))
	fmt.Println(b.Join(a.Ops()))
	fmt.Println(a.State() == b.State())
	fmt.Println(a.State())
	// Output:
	// X 2.0.0.0 Y 1.2.0.0
	// 2 <nil>
	// 1 <nil>
	// true
	// 4 in 0 notes
	// 4 text YX
	// 4 mark color red
}
