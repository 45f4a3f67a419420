package view_test

import (
	"fmt"

	"concordat/api"
	"concordat/replica"
	"concordat/view"
)

func Example() {
	r, _ := replica.New(1)
	add := func(into int, name string) {
		if o, err := r.Make(into, name); err == nil {
			r.Join([]api.Op{o})
		}
	}
	add(api.Root, "notes")
	add(api.Root, "notes")
	add(9, "today")
	add(api.Trash, "old")

	fmt.Println(view.List(r, api.Root))
	fmt.Println(view.Path(r, 13))
	fmt.Println(view.Find(r, "/notes~9/today"))
	fmt.Println(view.Find(r, "/old"))
	fmt.Println(view.Lost(r))
	// Output:
	// [{notes 5} {notes~9 9}]
	// /notes~9/today true
	// 13 true
	// 0 false
	// [17]
}
