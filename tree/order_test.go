package tree_test

import (
	"slices"
	"testing"

	"concordat/api"
	"concordat/op"
	"concordat/tree"
)

// played is what P40 says, word by word: all moves, one behind the other by their stamps, from nothing.
func played(l []api.Op) []tree.Place {
	var places []tree.Place
	for _, o := range op.Sort(l) {
		if o.Node == o.Other || slices.Contains(above(places, o.Other), o.Node) {
			continue
		}
		places = slices.DeleteFunc(places, func(p tree.Place) bool { return p.Node == o.Node })
		places = append(places, tree.Place{Node: o.Node, In: o.Other, Name: o.Name})
	}
	slices.SortFunc(places, func(a, b tree.Place) int { return a.Node - b.Node })
	return places
}

// above: what a node lies in, and what that lies in, and so on.
func above(places []tree.Place, node int) []int {
	for _, p := range places {
		if p.Node == node {
			return append(above(places, p.In), p.In)
		}
	}
	return nil
}

// checkTree holds a tree against these moves, by all that it tells.
func checkTree(t *testing.T, x *tree.Tree, l []api.Op) {
	t.Helper()
	want := played(l)
	if got := x.Places(); !slices.Equal(got, want) || x.Moves() != len(l) {
		t.Fatalf("%v: %v, not %v; %d moves", l, got, want, x.Moves())
	}
	for _, p := range want {
		up := above(want, p.Node)
		if got, lies := x.Place(p.Node); !lies || got != p {
			t.Fatalf("%v: Place(%d): %v, %v", l, p.Node, got, lies)
		}
		for _, of := range []int{api.Root, api.Trash, 4, 5, 6, 7, p.Node} {
			if x.Inside(p.Node, of) != slices.Contains(up, of) {
				t.Fatalf("%v: Inside(%d, %d): %v", l, p.Node, of, !slices.Contains(up, of))
			}
		}
		if x.Inside(p.Node, p.Node) {
			t.Fatalf("%v: %d lies in itself", l, p.Node)
		}
	}
}

// orders of the numbers 0 to n - 1.
func orders(n int) [][]int {
	if n == 0 {
		return [][]int{{}}
	}
	var l [][]int
	for _, short := range orders(n - 1) {
		for i := range n {
			l = append(l, slices.Insert(slices.Clone(short), i, n-1))
		}
	}
	return l
}

// smallMoves: of nodes 4 to 6, into each other, Root and Trash; those of row number row, with rising stamps, of which some have one time.
func smallMoves(row, long int) []api.Op {
	var l []api.Op
	for i := range long {
		l = append(l, move(3+i/2, i%2, 4+row%3, []int{api.Root, api.Trash, 4, 5, 6}[row/3%5], "abcd"[i:i+1]))
		row /= 15
	}
	return l
}

// P42: all rows of three moves, in each order; held against the document's words behind each move.
func TestSmallTreesStepByStep(t *testing.T) {
	all := orders(3)
	for row := range 15 * 15 * 15 {
		l := smallMoves(row, 3)
		for _, order := range all {
			x := tree.New()
			var came []api.Op
			for _, k := range order {
				if err := x.Apply(l[k]); err != nil {
					t.Fatalf("Apply(%v): %v", l[k], err)
				}
				came = append(came, l[k])
				checkTree(t, x, came)
			}
		}
	}
}

// P42: all rows of four moves, in each order.
func TestSmallTreesInAnyOrder(t *testing.T) {
	all := orders(4)
	for row := range 15 * 15 * 15 * 15 {
		l := smallMoves(row, 4)
		want := played(l)
		// A few of the orders each: all come by over the rows.
		for i := row % 5; i < len(all); i += 5 {
			x := tree.New()
			for _, k := range all[i] {
				x.Apply(l[k])
			}
			if got := x.Places(); !slices.Equal(got, want) {
				t.Fatalf("%v in the order %v: %v, not %v", l, all[i], got, want)
			}
		}
	}
}

// row of numbers that look like random ones, and are always the same.
type row uint32

func (r *row) next(n int) int {
	*r = *r*1664525 + 1013904223
	return int(*r>>8) % n
}

// P42: longer rows, with nodes that are made, in shuffled orders.
func TestLongerRows(t *testing.T) {
	for seed := range 60 {
		r := row(seed)
		long := 10 + r.next(60)
		nodes := []int{api.Root, api.Trash}
		var l []api.Op
		for i := range long {
			s := at(1+i/3, i%3)
			into := nodes[r.next(len(nodes))]
			node := 4*s.Time + s.By
			if i > 5 && r.next(3) > 0 {
				node = nodes[2+r.next(len(nodes)-2)]
			} else if s.By == 0 {
				nodes = append(nodes, node)
			}
			l = append(l, move(s.Time, s.By, node, into, string(rune('a'+i%26))))
		}
		for range 20 {
			for i := range l {
				k := i + r.next(len(l)-i)
				l[i], l[k] = l[k], l[i]
			}
			checkTree(t, grown(t, l...), l)
		}
	}
}

// Each three bytes are an operation, which may be wrong or come twice.
func FuzzAnyMoves(f *testing.F) {
	f.Add([]byte{1, 4, 0, 2, 8, 4, 0x12, 4, 8, 2, 8, 4})
	f.Add([]byte{9, 4, 5, 8, 5, 6, 7, 6, 4, 6, 4, 4, 0, 0, 0})
	f.Fuzz(func(t *testing.T, b []byte) {
		x := tree.New()
		var came []api.Op
		for ; len(b) >= 3 && len(came) < 100; b = b[3:] {
			o := move(int(b[0]&15), int(b[0]>>4)%5, int(b[1])-1, int(b[2])-1, "n"+string(rune('a'+len(came)%26)))
			want := op.Check(o)
			if want == nil && slices.ContainsFunc(came, func(c api.Op) bool { return c.S == o.S }) {
				want = api.ErrExist
			}
			if err := x.Apply(o); err != want {
				t.Fatalf("Apply(%v): %v, not %v", o, err, want)
			}
			if want == nil {
				came = append(came, o)
			}
		}
		checkTree(t, x, came)
	})
}
