package play_test

import (
	"reflect"
	"slices"
	"testing"

	"concordat/api"
	"concordat/play"
)

func holdMerge(t *testing.T, lists [][]api.Op, want string) {
	t.Helper()
	if s, err := play.Merge(lists); s != want || err != nil {
		t.Fatalf("Merge(%v): %q, %v, not %q", lists, s, err, want)
	}
}

// holdNoMerge: just this error, with the place of a list, and no other place inside.
func holdNoMerge(t *testing.T, lists [][]api.Op, at int, want error) {
	t.Helper()
	s, err := play.Merge(lists)
	if f, is := err.(*api.Fault); s != "" || !is || f.At != at || f.Err != want {
		t.Errorf("Merge(%v): %q, %#v, not %v at %d", lists, s, err, want, at)
	}
}

// makes a node in Root.
func makes(time, by, n int, name string) api.Op {
	return api.Op{S: api.Stamp{Time: time, By: by}, N: n, Kind: api.Move, Node: 4*time + by, Name: name}
}

// P111: no lists, or lists of nothing.
func TestMergeNothing(t *testing.T) {
	for _, lists := range [][][]api.Op{nil, {}, {nil}, {{}, nil, {}}} {
		holdMerge(t, lists, "")
	}
}

// P111: what all lists together make, wherever they overlap.
func TestMerge(t *testing.T) {
	a, b, c := makes(1, 0, 1, "a"), makes(2, 0, 2, "b"), makes(3, 0, 3, "c")
	other := makes(1, 3, 1, "z")
	into := api.Op{S: api.Stamp{Time: 4, By: 3}, N: 2, Kind: api.Move, Node: 7, Other: 4, Name: "in"}
	x := api.Op{S: api.Stamp{Time: 5, By: 1}, N: 1, Kind: api.Insert, Node: 7, Value: "X"}
	y := api.Op{S: api.Stamp{Time: 5, By: 2}, N: 1, Kind: api.Insert, Node: 7, Value: "Y"}
	m := api.Op{S: api.Stamp{Time: 6, By: 1}, N: 2, Kind: api.Set, Node: 4, Name: "m", Value: "v"}
	holdMerge(t, [][]api.Op{{a}}, "4 in 0 a")
	holdMerge(t, [][]api.Op{{b, a}, nil, {a, c}}, "4 in 0 a\n8 in 0 b\n12 in 0 c")
	holdMerge(t, [][]api.Op{{a}, {b}, {c}, {a, b, c}}, "4 in 0 a\n8 in 0 b\n12 in 0 c")
	want := "4 in 0 a\n7 in 4 in\n7 text YX\n4 mark m v"
	holdMerge(t, [][]api.Op{{a, other, into, x, y, m}}, want)
	holdMerge(t, [][]api.Op{{m, y, x, into, other, a}}, want)
	holdMerge(t, [][]api.Op{{other}, {a, into}, {y}, {m, x}}, want)
	holdMerge(t, [][]api.Op{{a}, {other, into}, {x}, {y}, {x, m, y}}, want)
}

// P111: Join's error, with a place of its own or without, has the place of its list.
func TestMergeErrors(t *testing.T) {
	a, b, c := makes(1, 0, 1, "a"), makes(2, 0, 2, "b"), makes(3, 0, 3, "c")
	kind, name := b, b
	kind.Kind, name.Name = 'x', "B"
	lost := b
	lost.Other = 7
	var many []api.Op
	for i := range 401 {
		many = append(many, makes(i+1, i%2, i/2+1, "n"))
	}
	for _, x := range []struct {
		lists [][]api.Op
		at    int
		err   error
	}{
		// With a place in their list, which is another one.
		{[][]api.Op{{{}}}, 0, api.ErrBound},
		{[][]api.Op{{a, b, {}}}, 0, api.ErrBound},
		{[][]api.Op{nil, {a}, {a, b, c, {}}}, 2, api.ErrBound},
		{[][]api.Op{{a}, {kind}}, 1, api.ErrKind},
		{[][]api.Op{{a}, nil, nil, {a, name}}, 3, api.ErrName},
		{[][]api.Op{{a}, {makes(1, 0, 1, "b")}}, 1, api.ErrExist},
		{[][]api.Op{{a, b}, {c}, {a, b, makes(9, 0, 3, "c")}}, 2, api.ErrExist},
		{[][]api.Op{{a, b, makes(9, 0, 1, "a")}, {c}}, 0, api.ErrExist},
		// Bare ones.
		{[][]api.Op{{b}}, 0, api.ErrGap},
		{[][]api.Op{nil, {b}, {a}}, 1, api.ErrGap},
		{[][]api.Op{{a}, {c}, {b}}, 1, api.ErrGap},
		{[][]api.Op{{b, a}, {makes(1, 0, 3, "c")}}, 1, api.ErrShape},
		{[][]api.Op{{a}, {a}, {lost}}, 2, api.ErrNone},
		{[][]api.Op{many}, 0, api.ErrFull},
		{[][]api.Op{many[:399], many[:400], many}, 2, api.ErrFull},
		{[][]api.Op{many[:400], nil, many[400:]}, 2, api.ErrFull},
		// The first list that has one, whatever comes behind it.
		{[][]api.Op{{a}, {c}, {{}}, {kind}}, 1, api.ErrGap},
		{[][]api.Op{{a}, {{}}, {c}, {kind}}, 1, api.ErrBound},
	} {
		holdNoMerge(t, x.lists, x.at, x.err)
	}
	if s, err := play.Merge([][]api.Op{many[:200], many[:400]}); err != nil || s == "" {
		t.Errorf("400: %q, %v", s, err)
	}
}

// P4: lists are only read, also behind their lengths.
func TestMergeOnlyReads(t *testing.T) {
	long := []api.Op{makes(3, 0, 3, "c"), makes(1, 0, 1, "a"), makes(2, 0, 2, "b"), makes(4, 0, 4, "d")}
	lists := [][]api.Op{long[1:2], long[:3], {}, long}
	var was [][]api.Op
	for _, l := range lists {
		was = append(was, slices.Clone(l))
	}
	for range 3 {
		holdMerge(t, lists[:2], "4 in 0 a\n8 in 0 b\n12 in 0 c")
		if !reflect.DeepEqual(lists, was) {
			t.Fatalf("changed: %v", lists)
		}
	}
}

// Bare: what has a place loses it; what has none stays.
func TestBare(t *testing.T) {
	for _, err := range []error{api.ErrGap, &api.Fault{At: 3, Err: api.ErrGap}} {
		if got := play.Bare(err); got != api.ErrGap {
			t.Errorf("Bare(%#v): %#v", err, got)
		}
	}
	if err := play.Bare(nil); err != nil {
		t.Errorf("Bare(nil): %v", err)
	}
}
