package replica_test

import (
	"math"
	"reflect"
	"slices"
	"strings"
	"testing"

	"concordat/api"
	"concordat/cells"
	"concordat/replica"
	"concordat/tree"
	"concordat/vector"
)

// The face that is given: a changed signature does not compile.
var (
	_ func(by int) (*replica.Replica, error)                                 = replica.New
	_ func(*replica.Replica) vector.Vector                                   = (*replica.Replica).Vector
	_ func(*replica.Replica) []api.Op                                        = (*replica.Replica).Ops
	_ func(*replica.Replica, vector.Vector) []api.Op                         = (*replica.Replica).Diff
	_ func(*replica.Replica) *tree.Tree                                      = (*replica.Replica).Tree
	_ func(*replica.Replica) *cells.Cells                                    = (*replica.Replica).Cells
	_ func(r *replica.Replica, node int) string                              = (*replica.Replica).Text
	_ func(*replica.Replica) int                                             = (*replica.Replica).By
	_ func(*replica.Replica) int                                             = (*replica.Replica).Time
	_ func(r *replica.Replica, into int, name string) (api.Op, error)        = (*replica.Replica).Make
	_ func(r *replica.Replica, node, into int, name string) (api.Op, error)  = (*replica.Replica).Move
	_ func(r *replica.Replica, node, at int, letter byte) (api.Op, error)    = (*replica.Replica).Write
	_ func(r *replica.Replica, node, at int) (api.Op, error)                 = (*replica.Replica).Erase
	_ func(r *replica.Replica, node int, name, value string) (api.Op, error) = (*replica.Replica).Mark
	_ func(*replica.Replica, []api.Op) (int, error)                          = (*replica.Replica).Join
	_ func(*replica.Replica) string                                          = (*replica.Replica).State
)

func at(time, by int) api.Stamp { return api.Stamp{Time: time, By: by} }

func idOf(time, by int) int { return time*api.Replicas + by }

func move(time, by, n, node, into int, name string) api.Op {
	return api.Op{S: at(time, by), N: n, Kind: api.Move, Node: node, Other: into, Name: name}
}

// node that its own operation makes.
func makeNode(time, by, n, into int, name string) api.Op {
	return move(time, by, n, idOf(time, by), into, name)
}

func insert(time, by, n, node, behind int, letter string) api.Op {
	return api.Op{S: at(time, by), N: n, Kind: api.Insert, Node: node, Other: behind, Value: letter}
}

func remove(time, by, n, node, letter int) api.Op {
	return api.Op{S: at(time, by), N: n, Kind: api.Delete, Node: node, Other: letter}
}

func set(time, by, n, node int, name, value string) api.Op {
	return api.Op{S: at(time, by), N: n, Kind: api.Set, Node: node, Name: name, Value: value}
}

func with(o api.Op, how func(o *api.Op)) api.Op {
	how(&o)
	return o
}

func begun(t *testing.T, by int) *replica.Replica {
	t.Helper()
	r, err := replica.New(by)
	if err != nil || r == nil {
		t.Fatalf("New(%d): %v, %v", by, r, err)
	}
	return r
}

// joined is a new replica that knows these.
func joined(t *testing.T, by int, l ...api.Op) *replica.Replica {
	t.Helper()
	r := begun(t, by)
	checkJoin(t, r, l, len(l))
	return r
}

func checkJoin(t *testing.T, r *replica.Replica, l []api.Op, want int) {
	t.Helper()
	if n, err := r.Join(l); n != want || err != nil {
		t.Fatalf("Join(%v): %d, %v, not %d", l, n, err, want)
	}
}

// few operations of three replicas, by stamp: two nodes, one in the other; a text of which a letter is deleted; marks, of which one is empty, and one is of a later stamp than another one.
func few() []api.Op {
	return []api.Op{
		makeNode(1, 0, 1, api.Root, "a"),        // node 4
		makeNode(1, 1, 1, api.Trash, "b"),       // node 5
		insert(2, 0, 2, 4, 0, "x"),              // letter 8
		insert(2, 1, 2, 5, 0, "z"),              // letter 9
		insert(3, 0, 3, 4, 8, "y"),              // letter 12
		set(3, 2, 1, 4, "m", "old"),             // of replica 2
		move(4, 1, 3, 5, 4, "b.c"),              //
		remove(5, 1, 4, 4, 8),                   //
		set(6, 0, 4, 4, "m", "v w"),             //
		set(6, 1, 5, 5, "m", ""),                //
		set(7, 0, 5, 5, "a", "1"),               //
		insert(8, 2, 2, 4, 12, " "),             // letter 34
		insert(8, 3, 1, 4, 34, "!"),             // letter 35
		makeNode(9, 2, 3, idOf(1, 1), "in-b"),   // node 38
		makeNode(10, 2, 4, idOf(9, 2), "in-in"), // node 42
	}
}

const fewState = "4 in 0 a\n5 in 4 b.c\n38 in 5 in-b\n42 in 38 in-in\n4 text y !\n5 text z\n4 mark m v w\n5 mark a 1"

// checkFew: all that a replica tells is as the few make it.
func checkFew(t *testing.T, r *replica.Replica) {
	t.Helper()
	if got := r.Ops(); !slices.Equal(got, few()) {
		t.Errorf("operations %v", got)
	}
	if v := r.Vector(); v != (vector.Vector{5, 5, 4, 1}) {
		t.Errorf("vector %v", v)
	}
	if s := r.State(); s != fewState {
		t.Errorf("state %q", s)
	}
	if r.Time() != 10 {
		t.Errorf("time %d", r.Time())
	}
	for node, want := range map[int]string{4: "y !", 5: "z", 38: "", 42: ""} {
		if got := r.Text(node); got != want {
			t.Errorf("text of %d: %q, not %q", node, got, want)
		}
	}
	if n := r.Tree().Moves(); n != 5 {
		t.Errorf("%d moves", n)
	}
	if v, s, is := r.Cells().Get(4, "m"); v != "v w" || s != at(6, 0) || !is {
		t.Errorf("mark %q, %v, %v", v, s, is)
	}
	checkNext(t, r, 11, []int{6, 6, 5, 2}[r.By()])
}

// checkNext: what it would make next has this time and number.
func checkNext(t *testing.T, r *replica.Replica, time, n int) {
	t.Helper()
	want := makeNode(time, r.By(), n, api.Root, "next")
	if o, err := r.Make(api.Root, "next"); o != want || err != nil {
		t.Errorf("next: %v, %v, not %v", o, err, want)
	}
}

// P70: a new replica knows nothing.
func TestNew(t *testing.T) {
	for by := range api.Replicas {
		r := begun(t, by)
		if r.By() != by || r.Time() != 0 || r.Vector() != (vector.Vector{}) || len(r.Ops()) != 0 || len(r.Diff(vector.Vector{})) != 0 || r.State() != "" {
			t.Errorf("%d: by %d, time %d, vector %v, operations %v, state %q", by, r.By(), r.Time(), r.Vector(), r.Ops(), r.State())
		}
		if r.Tree() == nil || r.Cells() == nil || r.Tree().Moves() != 0 || len(r.Tree().Places()) != 0 || len(r.Cells().Marks()) != 0 {
			t.Errorf("%d: tree %v, cells %v", by, r.Tree(), r.Cells())
		}
		for _, node := range []int{math.MinInt, -1, api.Root, api.Trash, 4, math.MaxInt} {
			if s := r.Text(node); s != "" {
				t.Errorf("%d: text of %d: %q", by, node, s)
			}
		}
		checkNext(t, r, 1, 1)
	}
}

func TestNoSuchReplica(t *testing.T) {
	for _, by := range []int{math.MinInt, -4, -1, api.Replicas, api.Replicas + 1, math.MaxInt} {
		if r, err := replica.New(by); r != nil || err != api.ErrBound {
			t.Errorf("New(%d): %v, %v", by, r, err)
		}
	}
}

// P70, P73: what is told of a few operations, by whichever replica.
func TestFew(t *testing.T) {
	for by := range api.Replicas {
		r := joined(t, by, few()...)
		if r.By() != by {
			t.Errorf("by %d, not %d", r.By(), by)
		}
		checkFew(t, r)
	}
}

// P70: of a node that is not known, of Root and Trash, and of a letter's id the text is empty.
func TestTextOfNoNode(t *testing.T) {
	r := joined(t, 0, few()...)
	for _, node := range []int{math.MinInt, -5, -4, -1, api.Root, api.Trash, 2, 3, 6, 8, 9, 12, 16, 34, 35, 36, 44, api.MaxTime * 4, math.MaxInt} {
		if s := r.Text(node); s != "" {
			t.Errorf("text of %d: %q", node, s)
		}
	}
}

// P70: the greatest time, which is neither the last one that came nor its own.
func TestTime(t *testing.T) {
	r := begun(t, 0)
	for i, x := range []struct {
		o    api.Op
		time int
	}{
		{makeNode(7, 2, 1, 0, "a"), 7}, {makeNode(3, 0, 1, 0, "a"), 7}, {makeNode(7, 3, 1, 0, "a"), 7}, {makeNode(6, 1, 1, 0, "a"), 7},
		{makeNode(8, 0, 2, 0, "a"), 8}, {makeNode(api.MaxTime-1, 1, 2, 0, "a"), api.MaxTime - 1}, {makeNode(api.MaxTime, 3, 2, 0, "a"), api.MaxTime}, {makeNode(9, 0, 3, 0, "a"), api.MaxTime},
	} {
		checkJoin(t, r, []api.Op{x.o}, 1)
		if r.Time() != x.time {
			t.Errorf("%d: time %d, not %d", i, r.Time(), x.time)
		}
	}
}

// P70: by stamp, and not by numbers, replicas, or as they came.
func TestOpsByStamp(t *testing.T) {
	late := []api.Op{makeNode(5, 3, 1, 0, "a"), makeNode(6, 1, 1, 0, "b"), makeNode(6, 2, 1, 0, "c"), makeNode(7, 0, 1, 0, "d"), makeNode(8, 3, 2, 0, "e"), makeNode(8, 3, 2, 0, "e")}
	r := begun(t, 1)
	checkJoin(t, r, []api.Op{late[3], late[1]}, 2)
	checkJoin(t, r, []api.Op{late[4], late[0], late[5], late[2]}, 3)
	if got := r.Ops(); !slices.Equal(got, late[:5]) {
		t.Errorf("operations %v", got)
	}
}

// P70: those whose number is more than the vector has of their replica, whatever the vector's numbers are.
func TestDiff(t *testing.T) {
	r := joined(t, 0, few()...)
	numbers := []int{math.MinInt, -1, 0, 1, 2, 3, 4, 5, 6, api.MaxOps, math.MaxInt}
	for _, a := range numbers {
		for _, b := range numbers {
			for _, c := range numbers {
				v := vector.Vector{a, b, c, 1 - c%2}
				var want []api.Op
				for _, o := range few() {
					if o.N > v[o.S.By] {
						want = append(want, o)
					}
				}
				if got := r.Diff(v); !slices.Equal(got, want) {
					t.Fatalf("Diff(%v): %v, not %v", v, got, want)
				}
			}
		}
	}
	if got := r.Diff(r.Vector()); len(got) != 0 {
		t.Errorf("to its own vector: %v", got)
	}
	checkFew(t, r)
}

// P70: who joins the difference to its vector knows all that the other one knows, wherever it stood.
func TestDiffIsWhatLacks(t *testing.T) {
	r := joined(t, 0, few()...)
	for n := range len(few()) + 1 {
		other := joined(t, 3, few()[:n]...)
		checkJoin(t, other, r.Diff(other.Vector()), len(few())-n)
		checkFew(t, other)
	}
}

// P70: Tree and Cells are its own, and show what comes later.
func TestOwnTreeAndCells(t *testing.T) {
	r := begun(t, 0)
	nodes, marks := r.Tree(), r.Cells()
	checkJoin(t, r, few(), len(few()))
	if r.Tree() != nodes || r.Cells() != marks {
		t.Error("others than ahead")
	}
	if !slices.Equal(nodes.Places(), []tree.Place{{Node: 4, In: 0, Name: "a"}, {Node: 5, In: 4, Name: "b.c"}, {Node: 38, In: 5, Name: "in-b"}, {Node: 42, In: 38, Name: "in-in"}}) {
		t.Errorf("places %v", nodes.Places())
	}
	if !slices.Equal(marks.Marks(), []cells.Mark{{Node: 4, Name: "m", Value: "v w"}, {Node: 5, Name: "a", Value: "1"}}) {
		t.Errorf("marks %v", marks.Marks())
	}
}

// P73: places, then texts, then marks; each by numbers, not by their digits; nothing of a text whose letters are all deleted, or of an empty mark; no line break at the end.
func TestState(t *testing.T) {
	r := begun(t, 0)
	for _, x := range []struct {
		o     api.Op
		state string
	}{
		{makeNode(2, 1, 1, api.Trash, "z"), "9 in 1 z"},
		{makeNode(2, 2, 1, 9, "y"), "9 in 1 z\n10 in 9 y"},
		{insert(3, 2, 2, 10, 0, " "), "9 in 1 z\n10 in 9 y\n10 text  "},
		{insert(4, 2, 3, 9, 0, "q"), "9 in 1 z\n10 in 9 y\n9 text q\n10 text  "},
		{set(4, 1, 2, 10, "m", " x"), "9 in 1 z\n10 in 9 y\n9 text q\n10 text  \n10 mark m  x"},
		{remove(5, 2, 4, 10, 14), "9 in 1 z\n10 in 9 y\n9 text q\n10 mark m  x"},
		{set(6, 2, 5, 9, "n", "~"), "9 in 1 z\n10 in 9 y\n9 text q\n9 mark n ~\n10 mark m  x"},
		{set(7, 2, 6, 9, "m.", "|"), "9 in 1 z\n10 in 9 y\n9 text q\n9 mark m. |\n9 mark n ~\n10 mark m  x"},
		{set(8, 2, 7, 10, "m", ""), "9 in 1 z\n10 in 9 y\n9 text q\n9 mark m. |\n9 mark n ~"},
		{makeNode(25, 0, 1, api.Root, "-"), "9 in 1 z\n10 in 9 y\n100 in 0 -\n9 text q\n9 mark m. |\n9 mark n ~"},
		{move(26, 0, 2, 9, 100, "."), "9 in 100 .\n10 in 9 y\n100 in 0 -\n9 text q\n9 mark m. |\n9 mark n ~"},
		{move(27, 0, 3, 100, 10, "no"), "9 in 100 .\n10 in 9 y\n100 in 0 -\n9 text q\n9 mark m. |\n9 mark n ~"},
		{remove(28, 0, 4, 9, 18), "9 in 100 .\n10 in 9 y\n100 in 0 -\n9 mark m. |\n9 mark n ~"},
		{remove(29, 0, 5, 9, 18), "9 in 100 .\n10 in 9 y\n100 in 0 -\n9 mark m. |\n9 mark n ~"},
		{insert(30, 0, 6, 9, 18, "Q"), "9 in 100 .\n10 in 9 y\n100 in 0 -\n9 text Q\n9 mark m. |\n9 mark n ~"},
	} {
		checkJoin(t, r, []api.Op{x.o}, 1)
		if s := r.State(); s != x.state {
			t.Fatalf("behind %v: %q, not %q", x.o, s, x.state)
		}
	}
}

// P4: lists that are handed out are the caller's.
func TestListsAreNewMemory(t *testing.T) {
	r := joined(t, 2, few()...)
	for _, list := range []func() []api.Op{r.Ops, func() []api.Op { return r.Diff(vector.Vector{}) }, func() []api.Op { return r.Diff(vector.Vector{1, 1, 1}) }} {
		first, kept := list(), list()
		want := slices.Clone(kept)
		// Also what lies behind its length is nobody else's.
		first = first[:cap(first)]
		for i := range first {
			first[i] = api.Op{Name: "spoilt"}
		}
		checkFew(t, r)
		if !slices.Equal(kept, want) {
			t.Errorf("%v", kept)
		}
	}
	v := r.Vector()
	v[0] = 99
	checkFew(t, r)
}

// P4: what is handed over is only read, and not kept; what lies behind its length is not touched.
func TestJoinOnlyReads(t *testing.T) {
	long := slices.Concat(few(), few())
	slices.Reverse(long[:len(few())])
	was := slices.Clone(long)
	r := begun(t, 0)
	checkJoin(t, r, long[:len(few())], len(few()))
	if !slices.Equal(long, was) {
		t.Errorf("changed: %v", long)
	}
	for i := range long {
		long[i] = api.Op{Name: "spoilt"}
	}
	checkFew(t, r)
}

// P2: replicas know nothing of each other, and asking changes nothing.
func TestReplicasAreTheirOwn(t *testing.T) {
	a, b, c := joined(t, 0, few()...), begun(t, 0), begun(t, 1)
	if a.Tree() == b.Tree() || a.Cells() == b.Cells() || len(b.Ops()) > 0 || b.State() != "" || c.Time() != 0 {
		t.Error("something is shared")
	}
	for range 3 {
		checkFew(t, a)
	}
	checkJoin(t, c, few()[:4], 4)
	checkJoin(t, b, few(), len(few()))
	checkJoin(t, b, []api.Op{makeNode(20, 3, 2, 0, "more")}, 1)
	checkFew(t, a)
	checkJoin(t, c, few(), len(few())-4)
	checkFew(t, c)
}

// The document does not spell the fields of Replica out: none of them may be exported. No method beside the face gives a way to set its time.
func TestNothingMoreIsExported(t *testing.T) {
	r := reflect.TypeFor[replica.Replica]()
	for i := range r.NumField() {
		if f := r.Field(i); f.IsExported() {
			t.Errorf("field %s is exported", f.Name)
		}
	}
	var names []string
	for i, p := 0, reflect.TypeFor[*replica.Replica](); i < p.NumMethod(); i++ {
		names = append(names, p.Method(i).Name)
	}
	if got := strings.Join(names, " "); got != "By Cells Diff Erase Join Make Mark Move Ops State Text Time Tree Vector Write" {
		t.Errorf("methods %s", got)
	}
}
