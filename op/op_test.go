package op_test

import (
	"math"
	"slices"
	"testing"

	"concordat/api"
	"concordat/op"
	"concordat/stamp"
)

// The face that is given: a changed signature does not compile.
var (
	_ func(api.Op) int             = op.ID
	_ func(api.Op) error           = op.Check
	_ func(api.Op) (string, error) = op.Text
	_ func(string) (api.Op, error) = op.Read
	_ func([]api.Op) []api.Op      = op.Sort
)

func at(time, by int) api.Stamp { return api.Stamp{Time: time, By: by} }

func with(o api.Op, how func(o *api.Op)) api.Op {
	how(&o)
	return o
}

func wrongStamps() []api.Stamp {
	return []api.Stamp{
		{}, at(0, 1), at(-1, 1), at(math.MinInt, 1), at(api.MaxTime+1, 1), at(math.MaxInt, 1),
		at(1, -1), at(1, api.Replicas), at(1, math.MinInt), at(1, math.MaxInt), at(0, -1), at(math.MaxInt, math.MaxInt),
	}
}

// P30: of the stamp alone, whatever else there is.
func TestIDs(t *testing.T) {
	for _, c := range []struct {
		s  api.Stamp
		id int
	}{{at(1, 0), 4}, {at(1, 1), 5}, {at(3, 2), 14}, {at(2, 1), 9}, {at(api.MaxTime, 3), 1<<32 + 3}} {
		if id := op.ID(api.Op{S: c.s}); id != c.id {
			t.Errorf("%v: %d, not %d", c.s, id, c.id)
		}
		if id := op.ID(api.Op{S: c.s, N: -1, Kind: 'x', Node: 7, Other: -7, Name: "M", Value: "\n"}); id != c.id {
			t.Errorf("%v, of a wrong one: %d, not %d", c.s, id, c.id)
		}
	}
	for _, s := range wrongStamps() {
		if id := op.ID(with(rightMove(), func(o *api.Op) { o.S = s })); id != 0 {
			t.Errorf("%v: %d, not 0", s, id)
		}
	}
}

// few has same stamps, wrong ones too, and different operations of each.
func few() []api.Op {
	return []api.Op{
		{S: at(2, 1), N: 1, Name: "a"}, {S: at(1, 3), N: 2, Value: "b"}, {S: at(2, 0), N: 3}, {S: at(1, 3), N: 4},
		{S: at(-5, 9), N: 5}, {S: at(2, 1), N: 6}, {S: at(-5, 9), N: 5, Node: 1},
	}
}

func TestSorted(t *testing.T) {
	l := few()
	want := []api.Op{l[4], l[6], l[1], l[3], l[2], l[0], l[5]}
	if got := op.Sort(l); !slices.Equal(got, want) {
		t.Errorf("%v, not %v", got, want)
	}
}

func TestSortedByTimeThenBy(t *testing.T) {
	l := op.Sort([]api.Op{
		{S: at(math.MaxInt, math.MinInt)}, {S: at(3, 0)}, {S: at(2, 3)}, {S: at(2, math.MaxInt)}, {S: at(math.MinInt, math.MaxInt)},
		{S: at(2, math.MinInt)}, {S: at(math.MaxInt, math.MaxInt)}, {S: at(0, 0)}, {S: at(math.MinInt, 0)},
	})
	for i := 1; i < len(l); i++ {
		if !stamp.Less(l[i-1].S, l[i].S) {
			t.Errorf("%v ahead of %v", l[i-1].S, l[i].S)
		}
	}
}

// P32: in each order in which they may stand: by stamp, and of the same ones as they stand.
func TestSortedFromAnyOrder(t *testing.T) {
	orders := 0
	eachOrder(few(), 0, func(l []api.Op) {
		orders++
		if got := op.Sort(l); !slices.Equal(got, sortedSlowly(l)) {
			t.Errorf("%v: %v", l, got)
		}
	})
	if orders != 5040 {
		t.Errorf("%d orders", orders)
	}
}

// A sort that is not stable may yet be so on short lists.
func TestLongListsAreSorted(t *testing.T) {
	for _, long := range []int{11, 12, 13, 50, 100, 1000} {
		for stamps := 1; stamps < 8; stamps++ {
			l := make([]api.Op, long)
			for i := range l {
				l[i] = api.Op{S: at(1+i*i%stamps, i*7%api.Replicas), N: i}
			}
			if got := op.Sort(l); !slices.Equal(got, sortedSlowly(l)) {
				t.Errorf("%d of %d stamps: %v", long, stamps, got)
			}
		}
	}
}

// sortedSlowly puts each one ahead of those that are later.
func sortedSlowly(l []api.Op) []api.Op {
	var sorted []api.Op
	for _, o := range l {
		i := len(sorted)
		for i > 0 && stamp.Less(o.S, sorted[i-1].S) {
			i--
		}
		sorted = slices.Insert(sorted, i, o)
	}
	return sorted
}

func eachOrder(l []api.Op, from int, visit func([]api.Op)) {
	if from == len(l) {
		visit(l)
		return
	}
	for i := from; i < len(l); i++ {
		l[from], l[i] = l[i], l[from]
		eachOrder(l, from+1, visit)
		l[from], l[i] = l[i], l[from]
	}
}

func TestNothingIsSorted(t *testing.T) {
	for _, l := range [][]api.Op{nil, {}, few()[:0]} {
		if got := op.Sort(l); len(got) != 0 {
			t.Errorf("%v: %v", l, got)
		}
	}
}

// P3, P4: the list is only read, also behind its length, and what is answered is new memory.
func TestSortKeepsTheList(t *testing.T) {
	whole := few()
	for long := range len(whole) + 1 {
		l := whole[:long]
		got := op.Sort(l)
		for i := range got {
			got[i] = api.Op{N: 99}
		}
		got = append(got, api.Op{N: 98})
		got = got[:cap(got)]
		for i := range got {
			got[i] = api.Op{N: 97}
		}
		if !slices.Equal(whole, few()) {
			t.Fatalf("the first %d of the list: it became %v", long, whole)
		}
	}
	l := few()
	got := op.Sort(l)
	clear(l)
	if !slices.Equal(got, op.Sort(few())) {
		t.Errorf("a later change of the list shows: %v", got)
	}
}
