package cells_test

import (
	"math"
	"reflect"
	"slices"
	"strings"
	"testing"

	"concordat/api"
	"concordat/cells"
)

// The face that is given: a changed signature does not compile.
var (
	_ func() *cells.Cells                                                   = cells.New
	_ func(*cells.Cells, api.Op) (bool, error)                              = (*cells.Cells).Set
	_ func(c *cells.Cells, node int, name string) (string, api.Stamp, bool) = (*cells.Cells).Get
	_ func(*cells.Cells) []cells.Mark                                       = (*cells.Cells).Marks
	_ func(a, b *cells.Cells) *cells.Cells                                  = cells.Join
	_ struct {
		Node        int
		Name, Value string
	} = cells.Mark{}
)

const last = api.MaxTime*api.Replicas + api.Replicas - 1

func at(time, by int) api.Stamp { return api.Stamp{Time: time, By: by} }

func set(time, by, node int, name, value string) api.Op {
	return api.Op{S: at(time, by), N: 1, Kind: api.Set, Node: node, Name: name, Value: value}
}

func with(o api.Op, how func(o *api.Op)) api.Op {
	how(&o)
	return o
}

// marked is cells in which each of these became the mark.
func marked(t *testing.T, l ...api.Op) *cells.Cells {
	t.Helper()
	c := cells.New()
	for _, o := range l {
		checkSet(t, c, o, true)
	}
	return c
}

func checkSet(t *testing.T, c *cells.Cells, o api.Op, want bool) {
	t.Helper()
	if did, err := c.Set(o); did != want || err != nil {
		t.Fatalf("Set(%v): %v, %v, not %v", o, did, err, want)
	}
}

// checkGet: the mark is as this operation made it.
func checkGet(t *testing.T, c *cells.Cells, o api.Op) {
	t.Helper()
	if v, s, is := c.Get(o.Node, o.Name); v != o.Value || s != o.S || !is {
		t.Errorf("Get(%d, %q): %q, %v, %v, not %q, %v", o.Node, o.Name, v, s, is, o.Value, o.S)
	}
}

func checkNever(t *testing.T, c *cells.Cells, node int, name string) {
	t.Helper()
	if v, s, is := c.Get(node, name); v != "" || s != (api.Stamp{}) || is {
		t.Errorf("Get(%d, %q): %q, %v, %v", node, name, v, s, is)
	}
}

func checkMarks(t *testing.T, c *cells.Cells, want ...cells.Mark) {
	t.Helper()
	if got := c.Marks(); !slices.Equal(got, want) {
		t.Errorf("marks %v, not %v", got, want)
	}
}

// few marks: two of node 4, an empty one of 8, one of 8, one of Root.
func few() []api.Op {
	return []api.Op{set(5, 1, 4, "m", "x"), set(3, 0, 4, "a", "2"), set(7, 2, 8, "a", ""), set(6, 3, 8, "m", "y"), set(2, 0, api.Root, "m", "r")}
}

func fewMarks() []cells.Mark {
	return []cells.Mark{{0, "m", "r"}, {4, "a", "2"}, {4, "m", "x"}, {8, "m", "y"}}
}

// checkFew: the few marks are as they were set, and nothing beside them.
func checkFew(t *testing.T, c *cells.Cells) {
	t.Helper()
	checkMarks(t, c, fewMarks()...)
	for _, o := range few() {
		checkGet(t, c, o)
	}
	for _, node := range []int{math.MinInt, -4, -1, api.Trash, 2, 3, 5, 12, last, last + 1, math.MaxInt} {
		checkNever(t, c, node, "m")
		checkNever(t, c, node, "a")
	}
	for _, name := range []string{"", "A", "b", "mm", "m ", "\x00", "\xff", strings.Repeat("m", 1000)} {
		checkNever(t, c, 4, name)
		checkNever(t, c, 8, name)
	}
	checkNever(t, c, api.Root, "a")
}

func TestNewCellsAreEmpty(t *testing.T) {
	c := cells.New()
	if c == nil {
		t.Fatal("nil")
	}
	checkMarks(t, c)
	for _, node := range []int{math.MinInt, -1, api.Root, api.Trash, 4, last, math.MaxInt} {
		for _, name := range []string{"", "a", "\xff"} {
			checkNever(t, c, node, name)
		}
	}
}

// P60, P61: what was set is told, and nothing else.
func TestFewMarks(t *testing.T) {
	checkFew(t, marked(t, few()...))
}

// P60: in place of none, or of one with a lesser stamp: by time, then by replica. The document's example: a lesser one changes nothing.
func TestTheLaterOneCounts(t *testing.T) {
	stamps := []api.Stamp{at(2, 0), at(2, 1), at(2, 3), at(3, 0), at(3, 2), at(1000, 1), at(api.MaxTime-1, 3), at(api.MaxTime, 0), at(api.MaxTime, 3)}
	for i, s := range stamps {
		for k, u := range stamps {
			// Neither the value nor the number among its replica's decides.
			for _, values := range [][2]string{{"b", "a"}, {"a", "b"}, {"", "a"}, {"a", ""}, {"", ""}, {"a", "a"}} {
				first := set(s.Time, s.By, 4, "m", values[0])
				second := with(set(u.Time, u.By, 4, "m", values[1]), func(o *api.Op) { o.N = 1 + i*api.MaxOps/10 })
				c := marked(t, first)
				checkSet(t, c, second, k > i)
				if k > i {
					first = second
				}
				checkGet(t, c, first)
				if first.Value == "" {
					checkMarks(t, c)
				} else {
					checkMarks(t, c, cells.Mark{Node: 4, Name: "m", Value: first.Value})
				}
			}
		}
	}
}

// P60: an operation that comes again does nothing.
func TestSetAgain(t *testing.T) {
	c := marked(t, few()...)
	for _, o := range few() {
		checkSet(t, c, o, false)
		checkSet(t, c, with(o, func(o *api.Op) { o.Value = "other" }), false)
		checkFew(t, c)
	}
}

// P60, P61: an empty value is one, too: it was set, it keeps earlier ones off, and is not told by Marks.
func TestEmptyValues(t *testing.T) {
	first := set(5, 0, 4, "m", "")
	c := marked(t, first)
	checkGet(t, c, first)
	checkMarks(t, c)
	checkSet(t, c, set(4, 3, 4, "m", "early"), false)
	checkGet(t, c, first)
	later := set(6, 0, 4, "m", "v")
	checkSet(t, c, later, true)
	checkGet(t, c, later)
	checkMarks(t, c, cells.Mark{Node: 4, Name: "m", Value: "v"})
	gone := set(6, 1, 4, "m", "")
	checkSet(t, c, gone, true)
	checkSet(t, c, later, false)
	checkGet(t, c, gone)
	checkMarks(t, c)
}

// A blank is a value that is not empty.
func TestBlankValues(t *testing.T) {
	c := marked(t, set(5, 0, 4, "m", " "))
	checkMarks(t, c, cells.Mark{Node: 4, Name: "m", Value: " "})
}

// P60: marks of other nodes, or by other names, have their own stamps, also where node and name written together are one text.
func TestMarksAreApart(t *testing.T) {
	l := []api.Op{
		set(9, 0, 11, "a", "v"), set(3, 0, 1, "1a", "w"), set(4, 0, 1, "1", "x"), set(9, 0, 1, "a", "y"), set(9, 1, 11, "1", "z"), set(9, 0, 11, "11", "v"),
	}
	c := marked(t, l...)
	for _, o := range l {
		checkGet(t, c, o)
	}
	checkMarks(t, c, []cells.Mark{{1, "1", "x"}, {1, "1a", "w"}, {1, "a", "y"}, {11, "1", "z"}, {11, "11", "v"}, {11, "a", "v"}}...)
}

// P61: by node as numbers are, then by name, byte by byte.
func TestMarksInOrder(t *testing.T) {
	names := []string{"-", "--", "-a", ".", ".-", "0", "10", "1a", "9", "a", "a-", "a.", "a0", "aa", "aaaaaaaaaaaa", "ab", "b", "z", "zz"}
	nodes := []int{api.Root, api.Trash, 2, 3, 4, 9, 10, 11, 99, 100, 1000, 1 << 31, 1 << 32, last - 1}
	var l []api.Op
	var want []cells.Mark
	for _, node := range nodes {
		for _, name := range names {
			// Values fall where nodes and names rise.
			l = append(l, set(api.MaxTime, 3, node, name, string(rune('z'-len(l)%26))))
			want = append(want, cells.Mark{Node: node, Name: name, Value: l[len(l)-1].Value})
		}
	}
	var r row
	for range 7 {
		checkMarks(t, marked(t, l...), want...)
		r.shuffle(l)
	}
}

// P60: the ends of what op.Check lets through.
func TestEnds(t *testing.T) {
	long := strings.Repeat("z", api.MaxName)
	var every []byte
	for b := byte(32); b <= 126; b++ {
		every = append(every, b)
	}
	l := []api.Op{
		set(1, 0, 3, "a", "v"), set(1, 0, 0, long, strings.Repeat("~", api.MaxName)),
		set(api.MaxTime, 3, last-1, "-.09az", " !\"|\\"),
		with(set(1, 0, 1, "n", "v"), func(o *api.Op) { o.N = api.MaxOps }),
	}
	for i, piece := range slices.Collect(slices.Chunk(every, api.MaxName)) {
		l = append(l, set(9, 0, 7, "p"+string(rune('a'+i)), string(piece)))
	}
	c := marked(t, l...)
	for _, o := range l {
		checkGet(t, c, o)
	}
	if got := len(c.Marks()); got != len(l) {
		t.Errorf("%d marks, not %d", got, len(l))
	}
}

// wrongOps: what Set refuses, and how, where few were set.
func wrongOps() []struct {
	o   api.Op
	err error
} {
	right := set(9, 0, 4, "m", "v")
	return []struct {
		o   api.Op
		err error
	}{
		{api.Op{}, api.ErrBound},
		{with(right, func(o *api.Op) { o.S.Time = 0 }), api.ErrBound},
		{with(right, func(o *api.Op) { o.S.Time = math.MinInt }), api.ErrBound},
		{with(right, func(o *api.Op) { o.S.Time = api.MaxTime + 1 }), api.ErrBound},
		{with(right, func(o *api.Op) { o.S.By = api.Replicas }), api.ErrBound},
		{with(right, func(o *api.Op) { o.S.By = -1 }), api.ErrBound},
		{with(right, func(o *api.Op) { o.N = 0 }), api.ErrBound},
		{with(right, func(o *api.Op) { o.N = api.MaxOps + 1 }), api.ErrBound},
		{with(right, func(o *api.Op) { o.Kind = 'x' }), api.ErrKind},
		{with(right, func(o *api.Op) { o.Kind = 0 }), api.ErrKind},
		{with(right, func(o *api.Op) { o.Kind = 'S' }), api.ErrKind},
		{with(right, func(o *api.Op) { o.Node = -1 }), api.ErrShape},
		{with(right, func(o *api.Op) { o.Node = 36 }), api.ErrShape},
		{with(right, func(o *api.Op) { o.Node = math.MaxInt }), api.ErrShape},
		{with(right, func(o *api.Op) { o.Other = 4 }), api.ErrShape},
		{with(right, func(o *api.Op) { o.Other = -1 }), api.ErrShape},
		{with(right, func(o *api.Op) { o.Name = "" }), api.ErrName},
		{with(right, func(o *api.Op) { o.Name = "M" }), api.ErrName},
		{with(right, func(o *api.Op) { o.Name = "m m" }), api.ErrName},
		{with(right, func(o *api.Op) { o.Name = strings.Repeat("m", api.MaxName+1) }), api.ErrName},
		{with(right, func(o *api.Op) { o.Value = "\x1f" }), api.ErrShape},
		{with(right, func(o *api.Op) { o.Value = "\x7f" }), api.ErrShape},
		{with(right, func(o *api.Op) { o.Value = "\xff" }), api.ErrShape},
		{with(right, func(o *api.Op) { o.Value = strings.Repeat("v", api.MaxName+1) }), api.ErrShape},
		{api.Op{S: at(9, 0), N: 1, Kind: api.Move, Node: 4, Name: "m"}, api.ErrKind},
		{api.Op{S: at(9, 0), N: 1, Kind: api.Insert, Node: 4, Value: "v"}, api.ErrKind},
		{api.Op{S: at(9, 0), N: 1, Kind: api.Delete, Node: 4, Other: 8}, api.ErrKind},
		// op.Check's errors come ahead of its being no Set.
		{api.Op{S: at(9, 0), N: 1, Kind: api.Move, Node: 4, Name: "M"}, api.ErrName},
		{api.Op{S: at(9, 0), N: 1, Kind: api.Move, Node: 4, Name: "m", Value: "v"}, api.ErrShape},
		{api.Op{S: at(9, 0), N: 1, Kind: api.Delete, Node: 4}, api.ErrShape},
		{api.Op{S: at(0, 0), N: 1, Kind: api.Insert, Node: 4, Value: "v"}, api.ErrBound},
		// So they do ahead of its being too early to count.
		{set(1, 0, 4, "m", "x"), api.ErrShape},
		{with(few()[0], func(o *api.Op) { o.N = 0 }), api.ErrBound},
		{with(few()[0], func(o *api.Op) { o.Other = 1 }), api.ErrShape},
	}
}

// P3: errors are bare, with them nothing was done, and nothing changes.
func TestRefused(t *testing.T) {
	c := marked(t, few()...)
	for _, x := range wrongOps() {
		if did, err := c.Set(x.o); did || err != x.err {
			t.Errorf("Set(%v): %v, %v, not %v", x.o, did, err, x.err)
		}
		if checkFew(t, c); t.Failed() {
			t.Fatalf("Set(%v)", x.o)
		}
	}
	// Also what does not show at once: the stamps that stand there are the old ones.
	checkSet(t, c, set(5, 2, 4, "m", "new"), true)
	checkSet(t, c, set(6, 3, 8, "a", "new"), false)
	checkSet(t, c, set(7, 3, 8, "a", "new"), true)
}

// P4: marks that are handed out are the caller's.
func TestMarksAreNewMemory(t *testing.T) {
	c := marked(t, few()...)
	first, kept := c.Marks(), c.Marks()
	for i := range first {
		first[i] = cells.Mark{Node: -1, Name: "spoilt", Value: "spoilt"}
	}
	_ = append(first[:0], cells.Mark{Node: 99})
	checkFew(t, c)
	checkSet(t, c, set(9, 0, 4, "m", "new"), true)
	if !slices.Equal(kept, fewMarks()) {
		t.Errorf("a later mark shows in what was told: %v", kept)
	}
}

// P2: cells know nothing of each other, and asking changes nothing.
func TestCellsAreTheirOwn(t *testing.T) {
	a, b := marked(t, few()...), cells.New()
	if a == b {
		t.Fatal("one and the same")
	}
	checkMarks(t, b)
	for range 3 {
		checkFew(t, a)
	}
	for _, o := range few() {
		checkNever(t, b, o.Node, o.Name)
		checkSet(t, b, o, true)
	}
	checkSet(t, a, set(9, 0, 4, "m", "new"), true)
	checkFew(t, b)
}

// The document does not spell the fields of Cells out: none of them may be exported.
func TestCellsHaveNoExportedField(t *testing.T) {
	c := reflect.TypeFor[cells.Cells]()
	for i := range c.NumField() {
		if f := c.Field(i); f.IsExported() {
			t.Errorf("field %s is exported", f.Name)
		}
	}
}

// P1: many more marks than a replica's operations can make end too.
func TestManyMarks(t *testing.T) {
	c := cells.New()
	const nodes = 2000
	for i := range nodes {
		node := i * 7 % nodes
		checkSet(t, c, set(api.MaxTime, 0, node, "b", "v"), true)
		checkSet(t, c, set(api.MaxTime, 1, node, "a", "w"), true)
	}
	l := cells.Join(c, c).Marks()
	if len(l) != 2*nodes {
		t.Fatalf("%d marks", len(l))
	}
	for i, m := range l {
		want := []cells.Mark{{i / 2, "a", "w"}, {i / 2, "b", "v"}}[i%2]
		if m != want {
			t.Fatalf("number %d: %v, not %v", i, m, want)
		}
	}
}
