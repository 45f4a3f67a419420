package op_test

import (
	"math"
	"strings"
	"testing"

	"concordat/api"
	"concordat/op"
)

// All of the stamp (2, 1), whose id is 9.
func rightMove() api.Op   { return api.Op{S: at(2, 1), N: 1, Kind: api.Move, Node: 4, Name: "a"} }
func rightInsert() api.Op { return api.Op{S: at(2, 1), N: 1, Kind: api.Insert, Node: 4, Value: "x"} }
func rightDelete() api.Op { return api.Op{S: at(2, 1), N: 1, Kind: api.Delete, Node: 4, Other: 5} }
func rightSet() api.Op {
	return api.Op{S: at(2, 1), N: 1, Kind: api.Set, Node: 4, Name: "m", Value: "v"}
}

func ofEachKind() []api.Op {
	return []api.Op{rightMove(), rightInsert(), rightDelete(), rightSet()}
}

func holdCheck(t *testing.T, o api.Op, want error) {
	t.Helper()
	// Errors are bare, so they are held against each other by !=, not by errors.Is.
	if err := op.Check(o); err != want {
		t.Errorf("%#v: %v, not %v", o, err, want)
	}
}

func TestStampsOfOperations(t *testing.T) {
	for _, o := range ofEachKind() {
		for _, time := range []int{2, 3, 1000, api.MaxTime - 1, api.MaxTime} {
			for by := range api.Replicas {
				holdCheck(t, with(o, func(o *api.Op) { o.S = at(time, by) }), nil)
			}
		}
		for _, s := range wrongStamps() {
			holdCheck(t, with(o, func(o *api.Op) { o.S = s }), api.ErrBound)
		}
	}
}

func TestNumbersOfOperations(t *testing.T) {
	for _, o := range ofEachKind() {
		for _, n := range []int{1, 2, 200, api.MaxOps - 1, api.MaxOps} {
			holdCheck(t, with(o, func(o *api.Op) { o.N = n }), nil)
		}
		for _, n := range []int{math.MinInt, -1, 0, api.MaxOps + 1, math.MaxInt} {
			holdCheck(t, with(o, func(o *api.Op) { o.N = n }), api.ErrBound)
		}
	}
}

func TestKinds(t *testing.T) {
	for _, o := range append(ofEachKind(), api.Op{S: at(1, 0), N: 1}) {
		for k := range 256 {
			o.Kind = byte(k)
			if err := op.Check(o); (err == api.ErrKind) == strings.ContainsRune("mids", rune(k)) {
				t.Errorf("%#v: %v", o, err)
			}
		}
	}
}

// numberCase: which numbers are right, all others from -3 to 12 and far away are not.
type numberCase struct {
	o           api.Op
	least, most int
}

func (c numberCase) hold(t *testing.T, put func(o *api.Op, n int)) {
	t.Helper()
	id := op.ID(c.o)
	for _, n := range []int{math.MinInt, -1 << 32, -3, -2, -1, 0, 1, 2, 3, 4, 5, 6, 7, 8, 9, 10, 11, 12, id - 1, id, id + 1, 1 << 32, 1<<32 + 4, math.MaxInt} {
		want := api.ErrShape
		if n >= c.least && n <= c.most {
			want = nil
		}
		holdCheck(t, with(c.o, func(o *api.Op) { put(o, n) }), want)
	}
}

func later(o api.Op) api.Op {
	o.S = at(api.MaxTime, 3)
	return o
}

const lastID = 1<<32 + 3

func TestNodes(t *testing.T) {
	for _, c := range []numberCase{
		{rightMove(), 2, 9}, {rightInsert(), 0, 8}, {rightDelete(), 0, 8}, {rightSet(), 0, 8},
		{later(rightMove()), 2, lastID}, {later(rightInsert()), 0, lastID - 1}, {later(rightDelete()), 0, lastID - 1}, {later(rightSet()), 0, lastID - 1},
	} {
		c.hold(t, func(o *api.Op, n int) { o.Node = n })
	}
}

func TestOthers(t *testing.T) {
	for _, c := range []numberCase{
		{rightMove(), 0, 8}, {rightInsert(), 0, 8}, {rightDelete(), 1, 8}, {rightSet(), 0, 0},
		{later(rightMove()), 0, lastID - 1}, {later(rightInsert()), 0, lastID - 1}, {later(rightDelete()), 1, lastID - 1}, {later(rightSet()), 0, 0},
	} {
		c.hold(t, func(o *api.Op, n int) { o.Other = n })
	}
}

// That a move goes into its own node is no matter of Check, but of the tree.
func TestMoveIntoItself(t *testing.T) {
	holdCheck(t, with(rightMove(), func(o *api.Op) { o.Node, o.Other = 5, 5 }), nil)
	holdCheck(t, with(rightMove(), func(o *api.Op) { o.Node, o.Other = 9, 9 }), api.ErrShape)
}

func TestNames(t *testing.T) {
	right := []string{"a", "z", "0", "9", "-", ".", "..", "--", "a.b-1", "0123456789.-", strings.Repeat("z", api.MaxName)}
	wrong := []string{"", "M", "a b", " a", "a ", "a~b", "a|b", "a/b", "a_b", "a\n", "a\x00", "\xff", "\u00e4", "a\u0301", strings.Repeat("z", api.MaxName+1), strings.Repeat("z", 100000), strings.Repeat("z", api.MaxName-1) + "\u00e4"}
	for b := range 256 {
		s := string([]byte{byte(b)})
		is := strings.Contains("abcdefghijklmnopqrstuvwxyz0123456789-.", s)
		for _, name := range []string{s, s + "bc", "a" + s + "c", "ab" + s, strings.Repeat("k", api.MaxName-1) + s} {
			if is {
				right = append(right, name)
			} else {
				wrong = append(wrong, name)
			}
		}
	}
	for _, name := range right {
		if !op.IsName(name) {
			t.Errorf("no name: %q", name)
		}
	}
	for _, name := range wrong {
		if op.IsName(name) {
			t.Errorf("a name: %q", name)
		}
	}
	for _, o := range []api.Op{rightMove(), rightSet()} {
		for _, name := range right {
			holdCheck(t, with(o, func(o *api.Op) { o.Name = name }), nil)
		}
		for _, name := range wrong {
			holdCheck(t, with(o, func(o *api.Op) { o.Name = name }), api.ErrName)
		}
	}
	for _, o := range []api.Op{rightInsert(), rightDelete()} {
		for _, name := range append(right, wrong...) {
			if name != "" {
				holdCheck(t, with(o, func(o *api.Op) { o.Name = name }), api.ErrName)
			}
		}
	}
}

func shapeUnless(is bool) error {
	if is {
		return nil
	}
	return api.ErrShape
}

func TestValuesOfEachByte(t *testing.T) {
	for b := range 256 {
		is := b >= 32 && b <= 126
		s := string([]byte{byte(b)})
		holdCheck(t, with(rightInsert(), func(o *api.Op) { o.Value = s }), shapeUnless(is))
		for _, value := range []string{s, s + "bc", "a" + s + "c", "ab" + s, strings.Repeat("k", api.MaxName-1) + s} {
			holdCheck(t, with(rightSet(), func(o *api.Op) { o.Value = value }), shapeUnless(is))
		}
		holdCheck(t, with(rightMove(), func(o *api.Op) { o.Value = s }), api.ErrShape)
		holdCheck(t, with(rightDelete(), func(o *api.Op) { o.Value = s }), api.ErrShape)
	}
}

func TestValuesOfEachLength(t *testing.T) {
	for long := range 3 * api.MaxName {
		value := strings.Repeat("~", long)
		holdCheck(t, with(rightMove(), func(o *api.Op) { o.Value = value }), shapeUnless(long == 0))
		holdCheck(t, with(rightInsert(), func(o *api.Op) { o.Value = value }), shapeUnless(long == 1))
		holdCheck(t, with(rightDelete(), func(o *api.Op) { o.Value = value }), shapeUnless(long == 0))
		holdCheck(t, with(rightSet(), func(o *api.Op) { o.Value = value }), shapeUnless(long <= api.MaxName))
	}
	for _, o := range ofEachKind() {
		for _, value := range []string{"\u00e4", strings.Repeat("x", 100000)} {
			holdCheck(t, with(o, func(o *api.Op) { o.Value = value }), api.ErrShape)
		}
	}
}

// P3: of several faults the first is told, in the order in which the promise names them.
func TestFirstFaultIsTold(t *testing.T) {
	faults := []struct {
		err  error
		make func(o *api.Op)
	}{
		{api.ErrBound, func(o *api.Op) { o.S.By = api.Replicas }},
		{api.ErrBound, func(o *api.Op) { o.N = 0 }},
		{api.ErrKind, func(o *api.Op) { o.Kind = 'x' }},
		{api.ErrShape, func(o *api.Op) { o.Node = -1 }},
		{api.ErrShape, func(o *api.Op) { o.Other = -1 }},
		{api.ErrName, func(o *api.Op) { o.Name = "A" }},
		{api.ErrShape, func(o *api.Op) { o.Value = "\n" }},
	}
	for _, o := range ofEachKind() {
		for some := range 1 << len(faults) {
			o := o
			var want error
			for i := len(faults) - 1; i >= 0; i-- {
				if some>>i&1 == 1 {
					faults[i].make(&o)
					want = faults[i].err
				}
			}
			holdCheck(t, o, want)
			if s, err := op.Text(o); err != want || (s == "") != (want != nil) {
				t.Errorf("Text of %#v: %q, %v, not %v", o, s, err, want)
			}
		}
	}
}

func TestZeroOperation(t *testing.T) {
	holdCheck(t, api.Op{}, api.ErrBound)
	if s, err := op.Text(api.Op{}); s != "" || err != api.ErrBound {
		t.Errorf("%q, %v", s, err)
	}
}
