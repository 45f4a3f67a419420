package cells_test

import (
	"slices"
	"strings"
	"testing"

	"concordat/api"
	"concordat/cells"
	"concordat/op"
	"concordat/stamp"
)

// standing is what P60 says, word by word, in a list: of each mark the operation that made it what it is.
func standing(l []api.Op) []api.Op {
	var all []api.Op
	for _, o := range l {
		i := slices.IndexFunc(all, func(x api.Op) bool { return x.Node == o.Node && x.Name == o.Name })
		if i < 0 {
			all = append(all, o)
		} else if stamp.Less(all[i].S, o.S) {
			all[i] = o
		}
	}
	return all
}

// marksOf these: those that are not empty, by node, then name.
func marksOf(all []api.Op) []cells.Mark {
	var l []cells.Mark
	for _, o := range all {
		if o.Value != "" {
			l = append(l, cells.Mark{Node: o.Node, Name: o.Name, Value: o.Value})
		}
	}
	slices.SortFunc(l, func(a, b cells.Mark) int {
		if a.Node != b.Node {
			return a.Node - b.Node
		}
		return strings.Compare(a.Name, b.Name)
	})
	return l
}

// checkStanding holds cells against these operations, by all that they tell.
func checkStanding(t *testing.T, c *cells.Cells, l []api.Op) {
	t.Helper()
	all := standing(l)
	checkMarks(t, c, marksOf(all)...)
	for _, o := range all {
		checkGet(t, c, o)
	}
	if t.Failed() {
		t.Fatalf("%v", l)
	}
}

// filled by these, whether they do anything or not.
func filled(t *testing.T, l ...api.Op) *cells.Cells {
	t.Helper()
	c := cells.New()
	for _, o := range l {
		if _, err := c.Set(o); err != nil {
			t.Fatalf("Set(%v): %v", o, err)
		}
	}
	return c
}

// orders of the numbers 0 to n - 1.
func orders(n int) [][]int {
	if n == 0 {
		return [][]int{{}}
	}
	var l [][]int
	for _, short := range orders(n - 1) {
		for i := range n {
			l = append(l, slices.Insert(slices.Clone(short), i, n-1))
		}
	}
	return l
}

// smallSets: row number row of so many, about three marks, some of them empty, with rising stamps, of which some have one time.
func smallSets(row, long int) []api.Op {
	var l []api.Op
	for i := range long {
		value := []string{"", "abcd"[i : i+1]}[row%2]
		l = append(l, set(3+i/2, i%2, []int{4, 4, 5}[row/2%3], []string{"m", "n", "m"}[row/2%3], value))
		row /= 6
	}
	return l
}

// picked from a list, in this order.
func picked(l []api.Op, order []int) []api.Op {
	var some []api.Op
	for _, k := range order {
		some = append(some, l[k])
	}
	return some
}

// P62: all rows of four, in each order; held against the document's words behind each of them.
func TestSmallCellsInAnyOrder(t *testing.T) {
	all := orders(4)
	for row := range 6 * 6 * 6 * 6 {
		l := smallSets(row, 4)
		for _, order := range all {
			c := cells.New()
			came := picked(l, order)
			for i, o := range came {
				did, err := c.Set(o)
				if want := slices.Contains(standing(came[:i+1]), o); did != want || err != nil {
					t.Fatalf("%v: Set(%v): %v, %v, not %v", came[:i], o, did, err, want)
				}
				checkStanding(t, c, came[:i+1])
			}
			checkStanding(t, c, l)
		}
	}
}

// P62: wherever a row is cut in two, which are joined, or set one into the other, also with some on both sides, it is the same.
func TestSmallCellsJoined(t *testing.T) {
	for row := range 6 * 6 * 6 * 6 {
		l := smallSets(row, 4)
		// Each operation's digit says where it was: here, there, or at both.
		for where := range 3 * 3 * 3 * 3 {
			var here, there []api.Op
			for i, o := range l {
				digit := []int{where % 3, where / 3 % 3, where / 9 % 3, where / 27}[i]
				if digit != 1 {
					here = append(here, o)
				}
				if digit != 0 {
					there = append(there, o)
				}
			}
			a, b := filled(t, here...), filled(t, there...)
			checkStanding(t, cells.Join(a, b), l)
			checkStanding(t, cells.Join(b, a), l)
			checkStanding(t, a, here)
			checkStanding(t, b, there)
			checkStanding(t, filled(t, slices.Concat(there, here)...), l)
		}
	}
}

// row of numbers that look like random ones, and are always the same.
type row uint32

func (r *row) next(n int) int {
	*r = *r*1664525 + 1013904223
	return int(*r>>8) % n
}

// shuffle a list in its place.
func (r *row) shuffle(l []api.Op) {
	for i := range l {
		k := i + r.next(len(l)-i)
		l[i], l[k] = l[k], l[i]
	}
}

// longSets: each with a stamp of its own, about a few nodes and names.
func longSets(r *row, long int) []api.Op {
	names := []string{"a", "b", "a.b", "-", "0", "aa"}
	values := []string{"", "x", "y", "long-value", " "}
	var l []api.Op
	for i := range long {
		o := set(3+i/3, i%3, r.next(10), names[r.next(len(names))], values[r.next(len(values))])
		o.N = 1 + i/3
		l = append(l, o)
	}
	return l
}

// P62: longer rows in shuffled orders, some of them twice, at one or at several that are joined in any order.
func TestLongerRows(t *testing.T) {
	for seed := range 60 {
		r := row(seed)
		l := longSets(&r, 10+r.next(190))
		for range 10 {
			r.shuffle(l)
			checkStanding(t, filled(t, slices.Concat(l, l[:r.next(len(l))])...), l)
			parts := make([]*cells.Cells, 1+r.next(5))
			for i := range parts {
				parts[i] = cells.New()
			}
			for i, o := range slices.Concat(l, l[:r.next(len(l))]) {
				parts[(i+r.next(len(parts)))%len(parts)].Set(o)
			}
			for len(parts) > 1 {
				k := r.next(len(parts) - 1)
				parts[k] = cells.Join(parts[k], parts[k+1])
				parts = slices.Delete(parts, k+1, k+2)
			}
			checkStanding(t, parts[0], l)
		}
	}
}

// Each five bytes are an operation, which may be wrong, or have the stamp of another one; some go to a side of their own, which is joined behind them.
func FuzzAnySets(f *testing.F) {
	f.Add([]byte{5, 4, 0, 1, 9, 5, 4, 0, 2, 8, 0x15, 4, 0, 0, 1})
	f.Add([]byte{9, 4, 5, 200, 6, 0x43, 6, 4, 6, 4, 0, 0, 0, 0, 0, 7, 255, 1, 129, 'm'})
	f.Fuzz(func(t *testing.T, b []byte) {
		here, there := cells.New(), cells.New()
		var came, gone []api.Op
		for ; len(b) >= 5 && len(came)+len(gone) < 100; b = b[5:] {
			o := set(int(b[0]&15), int(b[0]>>4)%5, int(b[1])-1, []string{"m", "n", "", "n.", "N"}[b[2]%5], strings.Repeat(string(rune(30+b[3]%100)), int(b[4]%14)))
			o.Kind = []byte{api.Set, api.Set, api.Set, api.Set, api.Set, api.Set, api.Move, 'x'}[b[4]>>5]
			c, l := here, &came
			if b[3] > 127 {
				c, l = there, &gone
			}
			want := op.Check(o)
			if want == nil && o.Kind != api.Set {
				want = api.ErrKind
			}
			ahead := standing(*l)
			if want == nil {
				*l = append(*l, o)
			}
			did, err := c.Set(o)
			if err != want || did != !slices.Equal(ahead, standing(*l)) {
				t.Fatalf("%v: Set(%v): %v, %v, not %v", ahead, o, did, err, want)
			}
		}
		checkStanding(t, here, came)
		checkStanding(t, there, gone)
		// A mark of the same stamp is a's: as if a's had come first.
		checkStanding(t, cells.Join(here, there), slices.Concat(standing(came), standing(gone)))
		checkStanding(t, cells.Join(there, here), slices.Concat(standing(gone), standing(came)))
	})
}
