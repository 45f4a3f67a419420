package view_test

import (
	"math"
	"reflect"
	"slices"
	"strings"
	"sync"
	"testing"

	"concordat/api"
	"concordat/replica"
	"concordat/view"
)

// The face that is given: a changed signature does not compile.
var (
	_ func(r *replica.Replica, in int) []view.Entry     = view.List
	_ func(r *replica.Replica, path string) (int, bool) = view.Find
	_ func(r *replica.Replica, node int) (string, bool) = view.Path
	_ func(r *replica.Replica) []int                    = view.Lost
	_ struct {
		Name string
		Node int
	} = view.Entry{}
)

func begun(t *testing.T, by int) *replica.Replica {
	t.Helper()
	r, err := replica.New(by)
	if err != nil {
		t.Fatalf("New(%d): %v", by, err)
	}
	return r
}

// done: an operation that a replica told as its next one is joined.
func done(t *testing.T, r *replica.Replica, o api.Op, err error) api.Op {
	t.Helper()
	if err == nil {
		_, err = r.Join([]api.Op{o})
	}
	if err != nil {
		t.Fatalf("%v: %v", o, err)
	}
	return o
}

func makeNode(t *testing.T, r *replica.Replica, into int, name string) int {
	t.Helper()
	o, err := r.Make(into, name)
	return done(t, r, o, err).Node
}

func move(t *testing.T, r *replica.Replica, node, into int, name string) {
	t.Helper()
	o, err := r.Move(node, into, name)
	done(t, r, o, err)
}

// few nodes: in Root two of one name, in the first of which there are two of one name, too; in Trash one with another one in it, by names that are in Root as well. Letters and marks stand in between.
func few(t *testing.T) *replica.Replica {
	t.Helper()
	r := begun(t, 0)
	for _, x := range []struct {
		into int
		name string
	}{
		{api.Root, "b"},  // 4
		{api.Root, "a"},  // 8
		{api.Root, "b"},  // 12
		{12, "c"},        // 16
		{api.Trash, "a"}, // 20
		{20, "b"},        // 24
		{4, "c"},         // 28
		{4, "c"},         // 32
		{32, "b"},        // 36
	} {
		makeNode(t, r, x.into, x.name)
	}
	o, err := r.Write(8, 0, 'x') // letter 40
	done(t, r, o, err)
	o, err = r.Mark(8, "z", "v") // its id is 44
	done(t, r, o, err)
	return r
}

func fewPaths() map[int]string {
	return map[int]string{
		api.Root: "/", 4: "/b", 8: "/a", 12: "/b~12", 16: "/b~12/c", 28: "/b/c", 32: "/b/c~32", 36: "/b/c~32/b",
	}
}

// noNodes are the ids of none of the few, the letter's and the mark's among them.
func noNodes() []int {
	return []int{math.MinInt, -12, -8, -4, -1, 2, 3, 5, 6, 7, 9, 13, 40, 44, 48, 99, 1 << 32, 1<<32 + 4, math.MaxInt}
}

// checkFew: all that is told of the few.
func checkFew(t *testing.T, r *replica.Replica) {
	t.Helper()
	for in, want := range map[int][]view.Entry{
		api.Root:  {{Name: "a", Node: 8}, {Name: "b", Node: 4}, {Name: "b~12", Node: 12}},
		api.Trash: {{Name: "a", Node: 20}},
		4:         {{Name: "c", Node: 28}, {Name: "c~32", Node: 32}},
		8:         nil,
		12:        {{Name: "c", Node: 16}},
		16:        nil,
		20:        {{Name: "b", Node: 24}},
		24:        nil,
		28:        nil,
		32:        {{Name: "b", Node: 36}},
		36:        nil,
	} {
		checkList(t, r, in, want...)
	}
	for node, path := range fewPaths() {
		checkPath(t, r, node, path)
		checkFound(t, r, path, node)
	}
	for _, node := range []int{api.Trash, 20, 24} {
		checkNoPath(t, r, node)
	}
	checkLost(t, r, 20, 24)
}

func checkList(t *testing.T, r *replica.Replica, in int, want ...view.Entry) {
	t.Helper()
	if got := view.List(r, in); !slices.Equal(got, want) {
		t.Errorf("List(%d): %v, not %v", in, got, want)
	}
}

func checkFound(t *testing.T, r *replica.Replica, path string, want int) {
	t.Helper()
	if node, is := view.Find(r, path); node != want || !is {
		t.Errorf("Find(%q): %d, %v, not %d", path, node, is, want)
	}
}

func checkNotFound(t *testing.T, r *replica.Replica, path string) {
	t.Helper()
	if node, is := view.Find(r, path); node != 0 || is {
		t.Errorf("Find(%.99q): %d, %v", path, node, is)
	}
}

func checkPath(t *testing.T, r *replica.Replica, node int, want string) {
	t.Helper()
	if path, is := view.Path(r, node); path != want || !is {
		t.Errorf("Path(%d): %q, %v, not %q", node, path, is, want)
	}
}

func checkNoPath(t *testing.T, r *replica.Replica, node int) {
	t.Helper()
	if path, is := view.Path(r, node); path != "" || is {
		t.Errorf("Path(%d): %q, %v", node, path, is)
	}
}

func checkLost(t *testing.T, r *replica.Replica, want ...int) {
	t.Helper()
	if got := view.Lost(r); !slices.Equal(got, want) {
		t.Errorf("Lost: %v, not %v", got, want)
	}
}

// P90, P91: what is told of a few nodes.
func TestFew(t *testing.T) {
	checkFew(t, few(t))
}

// P91: Root and Trash are there without any operation, and neither lies in the other one.
func TestNothingKnown(t *testing.T) {
	for by := range api.Replicas {
		r := begun(t, by)
		for _, in := range []int{math.MinInt, -1, api.Root, api.Trash, 2, 4, math.MaxInt} {
			checkList(t, r, in)
		}
		checkFound(t, r, "/", api.Root)
		checkPath(t, r, api.Root, "/")
		for _, node := range []int{math.MinInt, -1, api.Trash, 2, 4, math.MaxInt} {
			checkNoPath(t, r, node)
		}
		for _, path := range []string{"", "//", "/0", "/1", "/~0", "/~1", "/trash", "/root"} {
			checkNotFound(t, r, path)
		}
		checkLost(t, r)
	}
}

// P90, P91: of no replica nothing is told, not even Root.
func TestNilReplica(t *testing.T) {
	for _, n := range []int{math.MinInt, -1, api.Root, api.Trash, 4, math.MaxInt} {
		checkList(t, nil, n)
		checkNoPath(t, nil, n)
	}
	for _, path := range []string{"", "/", "//", "/a", "a"} {
		checkNotFound(t, nil, path)
	}
	checkLost(t, nil)
}

// P1: a replica that New did not make.
func TestReplicaThatNobodyMade(t *testing.T) {
	r := new(replica.Replica)
	checkList(t, r, api.Root)
	checkFound(t, r, "/", api.Root)
	checkNotFound(t, r, "/a")
	checkPath(t, r, api.Root, "/")
	checkNoPath(t, r, 4)
	checkLost(t, r)
}

// P90, P91: what is no node has nothing in it, and no path; also the id of a letter, or of a mark.
func TestNoNodes(t *testing.T) {
	r := few(t)
	for _, node := range noNodes() {
		checkList(t, r, node)
		checkNoPath(t, r, node)
	}
}

// P90: by names byte by byte, whatever the order of the nodes is; `~` and a number count for nothing there, though they come behind all that a name may have.
func TestListByName(t *testing.T) {
	names := []string{"-", "--", "-a", ".", "0", "0.", "10", "2", "9", "a", "a", "a-", "a.", "a0", "aa", "aa", "ab", "b", "z", "zzzzzzzzzzzz"}
	for _, order := range []func(l []string){
		func(l []string) {}, slices.Reverse[[]string], func(l []string) { slices.Reverse(l[:len(l)/2]) },
	} {
		l := slices.Clone(names)
		order(l)
		r := begun(t, 2)
		for _, name := range l {
			makeNode(t, r, api.Root, name)
		}
		var got []string
		for _, e := range view.List(r, api.Root) {
			name, _, _ := strings.Cut(e.Name, "~")
			got = append(got, name)
			checkFound(t, r, "/"+e.Name, e.Node)
		}
		if !slices.Equal(got, names) {
			t.Errorf("%v: %v", l, got)
		}
	}
}

// P90: of one name by numbers, not by their digits; the least one has the name.
func TestListByNode(t *testing.T) {
	r := begun(t, 0)
	for range 30 {
		makeNode(t, r, api.Trash, "t")
	}
	// In falling order: it is not who came first.
	for _, node := range []int{120, 100, 16, 12, 8} {
		move(t, r, node, api.Root, "n")
	}
	checkList(t, r, api.Root,
		view.Entry{Name: "n", Node: 8}, view.Entry{Name: "n~12", Node: 12}, view.Entry{Name: "n~16", Node: 16},
		view.Entry{Name: "n~100", Node: 100}, view.Entry{Name: "n~120", Node: 120})
}

// P90: a name belongs to one node's list alone; it goes on to the next one when who had it goes, and back.
func TestNameGoesOn(t *testing.T) {
	r := few(t)
	move(t, r, 4, 8, "b")
	checkList(t, r, api.Root, view.Entry{Name: "a", Node: 8}, view.Entry{Name: "b", Node: 12})
	checkList(t, r, 8, view.Entry{Name: "b", Node: 4})
	checkPath(t, r, 16, "/b/c")
	checkPath(t, r, 36, "/a/b/c~32/b")
	checkFound(t, r, "/b/c", 16)
	checkNotFound(t, r, "/b~12")
	checkNotFound(t, r, "/b~4")
	move(t, r, 4, api.Root, "b")
	checkFew(t, r)
	move(t, r, 8, api.Root, "b")
	checkList(t, r, api.Root, view.Entry{Name: "b", Node: 4}, view.Entry{Name: "b~8", Node: 8}, view.Entry{Name: "b~12", Node: 12})
	checkNotFound(t, r, "/a")
	move(t, r, 8, api.Root, "a")
	checkFew(t, r)
}

// wrongPaths: none of them leads to one of the few.
func wrongPaths() []string {
	return []string{
		// No names with `/` ahead of each.
		"", " ", "a", "b~12", "a/", "b/c", "./a", "//", "///", "/a/", "//a", "/b//c", "/b/c/", "/b/c//", "b/c/", "\\a", "/b\\c", "/b/c~32/b/",
		// Names that none has there.
		"/c", "/d", "/A", "/ab", "/aa", "/b/b", "/b/a", "/a/a", "/a/b", "/b~12/c/c", "/b~12/b", "/b/c/b", "/b/c~32/c", "/.", "/..", "/b/..", "/b/.", "/-",
		// Not just the name with its `~` and number.
		"/b~", "/b~4", "/a~8", "/b~8", "/b~012", "/b~+12", "/b~-12", "/b~12 ", "/b~ 12", "/b ~12", "/b~12~12", "/b~12~", "/b~1", "/b~120", "/b~0xc", "/~12", "/12", "/a~12", "/b~16", "/b/c~28", "/b~12/c~16", "/b~12/c~32", "/c~32",
		// Bytes that no name has.
		" /", "/ ", "/\x00", "\x00", "/a\x00", "/a\n", "/\xff", "/b\xff", "/é", "/a ", "/ a", "/a/\x00", "/*", "/?", "/%61", "/b|c",
		// In Trash.
		"/a/b", "/20", "/1", "/1/a", "/a~20", "/b~24",
	}
}

// P91: what is no path, or leads nowhere.
func TestFindNone(t *testing.T) {
	r := few(t)
	for _, path := range wrongPaths() {
		checkNotFound(t, r, path)
	}
	checkFew(t, r)
}

// P91: each byte of a path that is found counts: with one taken out, put in or changed, another one is found, or none.
func TestFindEachByte(t *testing.T) {
	r := few(t)
	right := map[string]int{}
	for node, path := range fewPaths() {
		right[path] = node
	}
	check := func(path string) {
		if node, is := right[path]; is {
			checkFound(t, r, path, node)
		} else {
			checkNotFound(t, r, path)
		}
	}
	for _, path := range fewPaths() {
		for i := range len(path) + 1 {
			check(path[:i])
			check(path[i:])
			for b := range 256 {
				letter := string([]byte{byte(b)})
				check(path[:i] + letter + path[i:])
				if i < len(path) {
					check(path[:i] + letter + path[i+1:])
				}
			}
		}
	}
}

// P1, P91: paths that are long end, too.
func TestLongPaths(t *testing.T) {
	r := few(t)
	for _, part := range []string{"/", "/b", "b", "/a/", "/b/c", "~", "/b~12", "/..", "\x00"} {
		checkNotFound(t, r, strings.Repeat(part, 200000))
	}
}

// P91: what lies in Trash, at whatever depth, is lost, rising, and has no path; what is taken out is found again, with all that lies in it.
func TestTrash(t *testing.T) {
	r := few(t)
	move(t, r, 4, 24, "t")
	checkLost(t, r, 4, 20, 24, 28, 32, 36)
	for _, node := range []int{4, 20, 24, 28, 32, 36} {
		checkNoPath(t, r, node)
	}
	checkList(t, r, api.Root, view.Entry{Name: "a", Node: 8}, view.Entry{Name: "b", Node: 12})
	checkList(t, r, 24, view.Entry{Name: "t", Node: 4})
	checkList(t, r, 32, view.Entry{Name: "b", Node: 36})
	checkFound(t, r, "/b", 12)
	move(t, r, 24, 12, "c")
	checkLost(t, r, 20)
	checkPath(t, r, 36, "/b/c~24/t/c~32/b")
	checkFound(t, r, "/b/c~24/t/c~32/b", 36)
	move(t, r, 12, api.Trash, "a")
	checkLost(t, r, 4, 12, 16, 20, 24, 28, 32, 36)
	checkList(t, r, api.Trash, view.Entry{Name: "a", Node: 12}, view.Entry{Name: "a~20", Node: 20})
	checkList(t, r, api.Root, view.Entry{Name: "a", Node: 8})
}

// P91: a node that lies in another one of a greater id, and that in one of a lesser id.
func TestPathUpAndDown(t *testing.T) {
	r := begun(t, 3)
	for range 4 {
		makeNode(t, r, api.Root, "n")
	}
	move(t, r, 7, 19, "x")
	move(t, r, 15, 7, "x")
	checkPath(t, r, 15, "/n~19/x/x")
	checkFound(t, r, "/n~19/x/x", 15)
	checkPath(t, r, 11, "/n")
	checkList(t, r, api.Root, view.Entry{Name: "n", Node: 11}, view.Entry{Name: "n~19", Node: 19})
}

// P90, P91: as many nodes as there may be, one in the other.
func TestDeep(t *testing.T) {
	r := begun(t, 0)
	node, path := api.Root, ""
	for range api.MaxOps - 1 {
		node = makeNode(t, r, node, "abcdefghijkl")
		path += "/abcdefghijkl"
	}
	checkPath(t, r, node, path)
	checkFound(t, r, path, node)
	checkNotFound(t, r, path+"/abcdefghijkl")
	checkNotFound(t, r, path+"/")
	checkList(t, r, node)
	checkLost(t, r)
	move(t, r, 4, api.Trash, "t")
	checkNoPath(t, r, node)
	checkNotFound(t, r, path)
	if l := view.Lost(r); len(l) != api.MaxOps-1 || l[0] != 4 || l[len(l)-1] != node || !slices.IsSorted(l) {
		t.Errorf("Lost: %v", l)
	}
}

// P90, P91: as many nodes as there may be, of one name in Root.
func TestWide(t *testing.T) {
	r := begun(t, 1)
	for range api.MaxOps {
		makeNode(t, r, api.Root, "n")
	}
	l := view.List(r, api.Root)
	if len(l) != api.MaxOps || l[0] != (view.Entry{Name: "n", Node: 5}) || l[399] != (view.Entry{Name: "n~1601", Node: 1601}) {
		t.Fatalf("%d: %v", len(l), l)
	}
	for _, e := range l {
		checkPath(t, r, e.Node, "/"+e.Name)
		checkFound(t, r, "/"+e.Name, e.Node)
	}
}

// P90, P91: the greatest ids, with the longest name.
func TestGreatestNodes(t *testing.T) {
	r := begun(t, 0)
	var l []api.Op
	for by := range api.Replicas {
		l = append(l, api.Op{S: api.Stamp{Time: api.MaxTime, By: by}, N: 1, Kind: api.Move, Node: api.MaxTime*4 + by, Name: "0123456789.-"})
	}
	if _, err := r.Join(l); err != nil {
		t.Fatal(err)
	}
	checkList(t, r, api.Root,
		view.Entry{Name: "0123456789.-", Node: 4294967296}, view.Entry{Name: "0123456789.-~4294967297", Node: 4294967297},
		view.Entry{Name: "0123456789.-~4294967298", Node: 4294967298}, view.Entry{Name: "0123456789.-~4294967299", Node: 4294967299})
	checkPath(t, r, 4294967299, "/0123456789.-~4294967299")
	checkFound(t, r, "/0123456789.-~4294967299", 4294967299)
}

// P4: lists that are handed out are the caller's.
func TestListsAreNewMemory(t *testing.T) {
	r := few(t)
	kept, lost := view.List(r, api.Root), view.Lost(r)
	spoilt, gone := view.List(r, api.Root), view.Lost(r)
	// Also what lies behind its length is nobody else's.
	spoilt, gone = spoilt[:cap(spoilt)], gone[:cap(gone)]
	for i := range spoilt {
		spoilt[i] = view.Entry{Name: "spoilt", Node: -1}
	}
	for i := range gone {
		gone[i] = -1
	}
	checkFew(t, r)
	checkList(t, r, api.Root, kept...)
	checkLost(t, r, lost...)
}

// P4: what is told once stays as it was, whatever comes then; and a replica that is asked changes by nothing.
func TestOnlyReads(t *testing.T) {
	r := few(t)
	state, ops, moves := r.State(), r.Ops(), r.Tree().Moves()
	kept, lost := view.List(r, api.Root), view.Lost(r)
	for range 3 {
		checkFew(t, r)
	}
	if r.State() != state || !slices.Equal(r.Ops(), ops) || r.Tree().Moves() != moves {
		t.Error("the replica changed")
	}
	was, gone := slices.Clone(kept), slices.Clone(lost)
	move(t, r, 8, api.Trash, "z")
	move(t, r, 20, api.Root, "z")
	if !slices.Equal(kept, was) || !slices.Equal(lost, gone) {
		t.Errorf("%v, %v", kept, lost)
	}
}

// P2: asked by several at once each is told the same.
func TestAskedSideBySide(t *testing.T) {
	r := few(t)
	var all sync.WaitGroup
	for range api.Workers {
		all.Go(func() {
			for range 20 {
				checkFew(t, r)
			}
		})
	}
	all.Wait()
}

// P90: the document spells the fields of Entry out.
func TestFieldsOfEntry(t *testing.T) {
	e := reflect.TypeFor[view.Entry]()
	if e.NumField() != 2 || e.Field(0).Name != "Name" || e.Field(1).Name != "Node" || e.NumMethod() != 0 {
		t.Errorf("%v", e)
	}
}
