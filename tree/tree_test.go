package tree_test

import (
	"math"
	"slices"
	"strings"
	"testing"

	"concordat/api"
	"concordat/op"
	"concordat/tree"
)

// The face that is given: a changed signature does not compile.
var (
	_ func() *tree.Tree                        = tree.New
	_ func(*tree.Tree, api.Op) error           = (*tree.Tree).Apply
	_ func(*tree.Tree) []tree.Place            = (*tree.Tree).Places
	_ func(*tree.Tree, int) (tree.Place, bool) = (*tree.Tree).Place
	_ func(t *tree.Tree, node, of int) bool    = (*tree.Tree).Inside
	_ func(*tree.Tree) int                     = (*tree.Tree).Moves
	_ struct {
		Node, In int
		Name     string
	} = tree.Place{}
)

const last = api.MaxTime*api.Replicas + api.Replicas - 1

func at(time, by int) api.Stamp { return api.Stamp{Time: time, By: by} }

func move(time, by, node, into int, name string) api.Op {
	return api.Op{S: at(time, by), N: 1, Kind: api.Move, Node: node, Other: into, Name: name}
}

func with(o api.Op, how func(o *api.Op)) api.Op {
	how(&o)
	return o
}

// grown is a tree of these moves, which all are well.
func grown(t *testing.T, l ...api.Op) *tree.Tree {
	t.Helper()
	x := tree.New()
	for i, o := range l {
		if err := x.Apply(o); err != nil || x.Moves() != i+1 {
			t.Fatalf("Apply(%v): %v, %d moves, not %d", o, err, x.Moves(), i+1)
		}
	}
	return x
}

func checkPlaces(t *testing.T, x *tree.Tree, want ...tree.Place) {
	t.Helper()
	if got := x.Places(); !slices.Equal(got, want) {
		t.Errorf("places %v, not %v", got, want)
	}
}

// family: 4 in Root, 8 in 4, 12 in 8, 17 in Trash, 22 in 17.
func family() []api.Op {
	return []api.Op{
		move(1, 0, 4, api.Root, "a"), move(2, 0, 8, 4, "b"), move(3, 0, 12, 8, "c"), move(4, 1, 17, api.Trash, "d"), move(5, 2, 22, 17, "e"),
	}
}

func familyPlaces() []tree.Place {
	return []tree.Place{{4, 0, "a"}, {8, 4, "b"}, {12, 8, "c"}, {17, 1, "d"}, {22, 17, "e"}}
}

func TestNewTreeIsEmpty(t *testing.T) {
	x := tree.New()
	if x == nil || x.Moves() != 0 || len(x.Places()) != 0 {
		t.Fatalf("%v", x)
	}
	for _, n := range []int{math.MinInt, -1, api.Root, api.Trash, 2, 3, 4, last, math.MaxInt} {
		if p, lies := x.Place(n); lies || p != (tree.Place{}) {
			t.Errorf("Place(%d): %v, %v", n, p, lies)
		}
		if x.Inside(n, api.Root) || x.Inside(n, n) || x.Inside(api.Root, n) {
			t.Errorf("%d lies in something", n)
		}
	}
}

// P40: Node comes to be in Other, by Name, from wherever it lay.
func TestMoved(t *testing.T) {
	x := grown(t, family()...)
	checkPlaces(t, x, familyPlaces()...)
	for _, c := range []struct {
		o    api.Op
		want []tree.Place
	}{
		{move(6, 0, 12, 4, "c"), []tree.Place{{4, 0, "a"}, {8, 4, "b"}, {12, 4, "c"}, {17, 1, "d"}, {22, 17, "e"}}},
		{move(6, 1, 8, 4, "other"), []tree.Place{{4, 0, "a"}, {8, 4, "other"}, {12, 4, "c"}, {17, 1, "d"}, {22, 17, "e"}}},
		{move(7, 3, 4, 22, "deep"), []tree.Place{{4, 22, "deep"}, {8, 4, "other"}, {12, 4, "c"}, {17, 1, "d"}, {22, 17, "e"}}},
		{move(8, 3, 17, 0, "back"), []tree.Place{{4, 22, "deep"}, {8, 4, "other"}, {12, 4, "c"}, {17, 0, "back"}, {22, 17, "e"}}},
		{move(9, 3, 12, 12, "no"), []tree.Place{{4, 22, "deep"}, {8, 4, "other"}, {12, 4, "c"}, {17, 0, "back"}, {22, 17, "e"}}},
		{move(10, 3, 17, 8, "no"), []tree.Place{{4, 22, "deep"}, {8, 4, "other"}, {12, 4, "c"}, {17, 0, "back"}, {22, 17, "e"}}},
	} {
		if err := x.Apply(c.o); err != nil {
			t.Fatalf("Apply(%v): %v", c.o, err)
		}
		checkPlaces(t, x, c.want...)
	}
}

// P40: into itself, right into a node in it, deeper: nothing, but it was applied.
func TestMovesIntoThemselvesDoNothing(t *testing.T) {
	for _, into := range []int{4, 8, 12} {
		x := grown(t, append(family(), move(9, 0, 4, into, "no"))...)
		checkPlaces(t, x, familyPlaces()...)
		if err := x.Apply(move(9, 0, 4, api.Trash, "z")); err != api.ErrExist {
			t.Errorf("into %d: its stamp is free: %v", into, err)
		}
	}
}

// P40: that holds of a node that lies in nothing, too, and of those that hang on it.
func TestNodesThatLieInNothing(t *testing.T) {
	x := grown(t, move(9, 0, 12, 8, "c"), move(9, 1, 8, 4, "b"), move(9, 2, 4, 12, "no"), move(9, 3, 5, 5, "no"))
	checkPlaces(t, x, tree.Place{Node: 8, In: 4, Name: "b"}, tree.Place{Node: 12, In: 8, Name: "c"})
	for _, n := range []int{4, 5} {
		if p, lies := x.Place(n); lies || p != (tree.Place{}) {
			t.Errorf("Place(%d): %v, %v", n, p, lies)
		}
	}
	if !x.Inside(12, 4) || x.Inside(12, api.Root) || x.Inside(4, 12) {
		t.Error("inside")
	}
}

// The document's example: one moves a into b, the other one b into a meanwhile.
func TestTheLaterOfTwoCrossingMovesDoesNothing(t *testing.T) {
	a, b := move(1, 0, 4, api.Root, "a"), move(1, 1, 5, api.Root, "b")
	here, there := move(2, 0, 4, 5, "in-b"), move(2, 1, 5, 4, "in-a")
	for _, l := range [][]api.Op{{a, b, here, there}, {a, b, there, here}, {there, here, b, a}, {here, there, a, b}} {
		checkPlaces(t, grown(t, l...), tree.Place{Node: 4, In: 5, Name: "in-b"}, tree.Place{Node: 5, In: 0, Name: "b"})
	}
}

// P40: by a move that comes late, later ones that did something do nothing, and the other way round.
func TestLateMovesDecideAnew(t *testing.T) {
	x := grown(t, move(1, 0, 4, api.Root, "a"), move(2, 0, 8, api.Root, "b"), move(5, 0, 8, 4, "b5"), move(7, 0, 4, 8, "no"))
	checkPlaces(t, x, tree.Place{Node: 4, In: 0, Name: "a"}, tree.Place{Node: 8, In: 4, Name: "b5"})
	steps := []struct {
		o    api.Op
		want []tree.Place
	}{
		{move(6, 0, 8, api.Trash, "b6"), []tree.Place{{4, 8, "no"}, {8, 1, "b6"}}},
		{move(3, 0, 4, 8, "a3"), []tree.Place{{4, 8, "no"}, {8, 1, "b6"}}},
		{move(6, 1, 4, api.Trash, "a6"), []tree.Place{{4, 8, "no"}, {8, 1, "b6"}}},
		{move(6, 2, 8, 4, "b6.2"), []tree.Place{{4, 1, "a6"}, {8, 4, "b6.2"}}},
		{move(1, 1, 5, 4, "c"), []tree.Place{{4, 1, "a6"}, {5, 4, "c"}, {8, 4, "b6.2"}}},
	}
	for _, s := range steps {
		if err := x.Apply(s.o); err != nil {
			t.Fatalf("Apply(%v): %v", s.o, err)
		}
		checkPlaces(t, x, s.want...)
	}
	if x.Moves() != 9 {
		t.Errorf("%d moves", x.Moves())
	}
}

// P40: stamps are held against each other by time, then by replica, up to the greatest ones.
func TestTheLatestMoveCounts(t *testing.T) {
	l := []api.Op{
		move(1, 1, 5, 0, "first"), move(1, 3, 5, 1, "by"), move(2, 0, 5, 4, "time"), move(api.MaxTime, 2, 5, 6, "late"), move(api.MaxTime, 3, 5, last-1, "latest"),
	}
	for i, o := range l {
		for _, early := range l[:i] {
			want := tree.Place{Node: 5, In: o.Other, Name: o.Name}
			checkPlaces(t, grown(t, early, o), want)
			checkPlaces(t, grown(t, o, early), want)
		}
	}
}

func TestPlacesByNode(t *testing.T) {
	var l []api.Op
	var want []tree.Place
	for i := range 100 {
		l = append(l, move(1+(i*37)%100, i%api.Replicas, (1+(i*37)%100)*api.Replicas+i%api.Replicas, i%2, "n"))
	}
	for _, o := range op.Sort(l) {
		want = append(want, tree.Place{Node: o.Node, In: o.Other, Name: "n"})
	}
	checkPlaces(t, grown(t, l...), want...)
}

// P41: Place tells what Places tells, and nothing of other numbers.
func TestPlaceOfEachNode(t *testing.T) {
	x := grown(t, family()...)
	for _, want := range familyPlaces() {
		if p, lies := x.Place(want.Node); !lies || p != want {
			t.Errorf("Place(%d): %v, %v, not %v", want.Node, p, lies, want)
		}
	}
	for _, n := range []int{math.MinInt, -4, -1, api.Root, api.Trash, 2, 3, 5, 13, last, math.MaxInt} {
		if p, lies := x.Place(n); lies || p != (tree.Place{}) {
			t.Errorf("Place(%d): %v, %v", n, p, lies)
		}
	}
}

func TestInside(t *testing.T) {
	x := grown(t, family()...)
	above := map[int][]int{4: {0}, 8: {4, 0}, 12: {8, 4, 0}, 17: {1}, 22: {17, 1}}
	numbers := []int{math.MinInt, -4, -1, api.Root, api.Trash, 2, 3, 4, 5, 8, 12, 13, 17, 22, last, math.MaxInt}
	for _, node := range numbers {
		for _, of := range numbers {
			if is := x.Inside(node, of); is != slices.Contains(above[node], of) {
				t.Errorf("Inside(%d, %d): %v", node, of, is)
			}
		}
	}
}

// wrongOps: what Apply refuses, and how, where the family was applied.
func wrongOps() []struct {
	o   api.Op
	err error
} {
	right := move(9, 0, 8, 0, "n")
	return []struct {
		o   api.Op
		err error
	}{
		{api.Op{}, api.ErrBound},
		{with(right, func(o *api.Op) { o.S.Time = 0 }), api.ErrBound},
		{with(right, func(o *api.Op) { o.S.Time = api.MaxTime + 1 }), api.ErrBound},
		{with(right, func(o *api.Op) { o.S.By = api.Replicas }), api.ErrBound},
		{with(right, func(o *api.Op) { o.S.By = -1 }), api.ErrBound},
		{with(right, func(o *api.Op) { o.N = 0 }), api.ErrBound},
		{with(right, func(o *api.Op) { o.N = api.MaxOps + 1 }), api.ErrBound},
		{with(right, func(o *api.Op) { o.Kind = 'x' }), api.ErrKind},
		{with(right, func(o *api.Op) { o.Kind = 0 }), api.ErrKind},
		{with(right, func(o *api.Op) { o.Node = api.Root }), api.ErrShape},
		{with(right, func(o *api.Op) { o.Node = api.Trash }), api.ErrShape},
		{with(right, func(o *api.Op) { o.Node = 37 }), api.ErrShape},
		{with(right, func(o *api.Op) { o.Node = math.MinInt }), api.ErrShape},
		{with(right, func(o *api.Op) { o.Other = 36 }), api.ErrShape},
		{with(right, func(o *api.Op) { o.Other = -1 }), api.ErrShape},
		{with(right, func(o *api.Op) { o.Other = math.MaxInt }), api.ErrShape},
		{with(right, func(o *api.Op) { o.Name = "" }), api.ErrName},
		{with(right, func(o *api.Op) { o.Name = "A" }), api.ErrName},
		{with(right, func(o *api.Op) { o.Name = strings.Repeat("n", api.MaxName+1) }), api.ErrName},
		{with(right, func(o *api.Op) { o.Value = "v" }), api.ErrShape},
		{api.Op{S: at(9, 0), N: 1, Kind: api.Insert, Node: 4, Value: "x"}, api.ErrKind},
		{api.Op{S: at(9, 0), N: 1, Kind: api.Delete, Node: 4, Other: 8}, api.ErrKind},
		{api.Op{S: at(9, 0), N: 1, Kind: api.Set, Node: 4, Name: "a"}, api.ErrKind},
		// op.Check's errors come ahead of ErrKind, and both ahead of ErrExist.
		{api.Op{S: at(9, 0), N: 1, Kind: api.Set, Node: 4, Name: "A"}, api.ErrName},
		{api.Op{S: at(9, 0), N: 1, Kind: api.Delete, Node: 4}, api.ErrShape},
		{api.Op{S: at(3, 0), N: 1, Kind: api.Set, Node: 4, Name: "a"}, api.ErrKind},
		{move(3, 0, 4, 0, "A"), api.ErrName},
		{move(3, 0, 13, 0, "n"), api.ErrShape},
		{with(family()[2], func(o *api.Op) { o.N = 0 }), api.ErrBound},
		{family()[0], api.ErrExist},
		{family()[2], api.ErrExist},
		{family()[4], api.ErrExist},
		{move(3, 0, 4, 1, "other"), api.ErrExist},
		{with(family()[4], func(o *api.Op) { o.N = api.MaxOps }), api.ErrExist},
	}
}

// P3: errors are bare, and change nothing.
func TestRefused(t *testing.T) {
	x := grown(t, family()...)
	for _, c := range wrongOps() {
		if err := x.Apply(c.o); err != c.err {
			t.Errorf("Apply(%v): %v, not %v", c.o, err, c.err)
		}
		if checkPlaces(t, x, familyPlaces()...); x.Moves() != 5 {
			t.Fatalf("Apply(%v): %d moves", c.o, x.Moves())
		}
	}
	// Also what does not show at once: later and earlier moves do what they would have done.
	for _, o := range []api.Op{move(9, 0, 8, 22, "late"), move(1, 1, 5, 4, "early"), move(3, 1, 4, api.Trash, "mid")} {
		if err := x.Apply(o); err != nil {
			t.Fatalf("Apply(%v): %v", o, err)
		}
	}
	checkPlaces(t, x, tree.Place{Node: 4, In: 1, Name: "mid"}, tree.Place{Node: 5, In: 4, Name: "early"}, tree.Place{Node: 8, In: 22, Name: "late"},
		tree.Place{Node: 12, In: 8, Name: "c"}, tree.Place{Node: 17, In: 1, Name: "d"}, tree.Place{Node: 22, In: 17, Name: "e"})
}

// P40: the number among its replica's is not asked for, beyond op.Check.
func TestNumbersAreNotHeldAgainstEachOther(t *testing.T) {
	l := family()
	for i := range l {
		l[i].N = api.MaxOps - i%2
	}
	checkPlaces(t, grown(t, l...), familyPlaces()...)
}

// P4: places that are handed out are the caller's.
func TestPlacesAreNewMemory(t *testing.T) {
	x := grown(t, family()...)
	first := x.Places()
	for i := range first {
		first[i] = tree.Place{Node: -1, In: -1, Name: "spoilt"}
	}
	_ = append(first[:0], tree.Place{Node: 99})
	checkPlaces(t, x, familyPlaces()...)
	kept := x.Places()
	x.Apply(move(9, 0, 12, api.Trash, "gone"))
	if !slices.Equal(kept, familyPlaces()) {
		t.Errorf("a later move shows in what was told: %v", kept)
	}
}

// P2: trees know nothing of each other, and asking changes nothing.
func TestTreesAreTheirOwn(t *testing.T) {
	a, b := grown(t, family()...), tree.New()
	if a == b || b.Moves() != 0 || len(b.Places()) != 0 {
		t.Errorf("%d moves, %v", b.Moves(), b.Places())
	}
	for range 3 {
		a.Place(77)
		a.Inside(77, 78)
		checkPlaces(t, a, familyPlaces()...)
	}
	for _, o := range family() {
		if err := b.Apply(o); err != nil {
			t.Errorf("what one applied shows in the other: %v", err)
		}
	}
	checkPlaces(t, b, familyPlaces()...)
}

// P1: a deep tree, whose moves come from the last to the first, ends too.
func TestDeepTree(t *testing.T) {
	const deep = 800
	var l []api.Op
	var want []tree.Place
	for time := 1; time <= deep; time++ {
		l = append(l, move(time, 0, 4*time, 4*(time-1), "n"))
		want = append(want, tree.Place{Node: 4 * time, In: 4 * (time - 1), Name: "n"})
	}
	l = append(l, move(deep+1, 0, 4, 4*deep, "no"))
	slices.Reverse(l)
	x := grown(t, l...)
	checkPlaces(t, x, want...)
	if !x.Inside(4*deep, 4) || !x.Inside(4*deep, api.Root) || x.Inside(4, 4*deep) || x.Inside(4*deep, api.Trash) {
		t.Error("inside")
	}
}
