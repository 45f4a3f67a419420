package vector_test

import (
	"math"
	"testing"

	"concordat/api"
	"concordat/vector"
)

type v = vector.Vector

// The face that is given: a changed signature does not compile.
var (
	_ [api.Replicas]int       = vector.Vector{}
	_ func(v) error           = vector.Vector.Check
	_ func(a, b v) v          = vector.Join
	_ func(a, b v) bool       = vector.Covers
	_ func(a, b v) int        = vector.Order
	_ func(a, b v) int        = vector.Lacks
	_ func(v) string          = vector.Vector.Text
	_ func(string) (v, error) = vector.Read
)

// few is every vector of the numbers from 0 to 2.
func few() []v {
	return vectorsOf(0, 1, 2)
}

// wide has numbers beyond all bounds too; they stay within what the document speaks of.
func wide() []v {
	return vectorsOf(-1<<57, -3, 0, api.MaxOps, 1<<57)
}

func vectorsOf(numbers ...int) []v {
	l := []v{{}}
	for i := range api.Replicas {
		var longer []v
		for _, x := range l {
			for _, n := range numbers {
				x[i] = n
				longer = append(longer, x)
			}
		}
		l = longer
	}
	return l
}

// faultAt says at which place err tells ErrBound as a Fault, or -1. It looks at the error itself, not at what it wraps.
func faultAt(err error) int {
	if f, ok := err.(*api.Fault); ok && f != nil && f.Err == api.ErrBound {
		return f.At
	}
	return -1
}

func TestCheckTellsRightVectors(t *testing.T) {
	for _, x := range append(vectorsOf(0, 1, api.MaxOps-1, api.MaxOps), v{}, v{1, 2, 3, 4}) {
		if err := x.Check(); err != nil {
			t.Errorf("%v: %v", x, err)
		}
	}
}

func TestCheckTellsTheFirstWrongPlace(t *testing.T) {
	wrong := []int{math.MinInt, -api.MaxOps, -1, api.MaxOps + 1, 1000, math.MaxInt}
	for at := range api.Replicas {
		for _, n := range wrong {
			for _, later := range []int{0, api.MaxOps, -1, api.MaxOps + 1} {
				x := v{api.MaxOps, 0, 7, 1}
				x[at] = n
				for i := at + 1; i < api.Replicas; i++ {
					x[i] = later
				}
				if err := x.Check(); faultAt(err) != at {
					t.Errorf("%v: %v at %d, not ErrBound at %d", x, err, faultAt(err), at)
				}
			}
		}
	}
}

// P4: each fault is new memory.
func TestFaultsAreTheirOwn(t *testing.T) {
	x := v{0, -1}
	if f, ok := x.Check().(*api.Fault); ok {
		f.At, f.Err = 3, nil
	}
	if err := x.Check(); faultAt(err) != 1 {
		t.Errorf("%v", err)
	}
}

func TestOfTwoVectors(t *testing.T) {
	for _, c := range []struct {
		a, b, join   v
		order, lacks int
	}{
		{v{}, v{}, v{}, 0, 0},
		{v{1, 2, 3, 4}, v{1, 2, 3, 4}, v{1, 2, 3, 4}, 0, 0},
		{v{400, 400, 400, 400}, v{400, 400, 400, 400}, v{400, 400, 400, 400}, 0, 0},
		{v{1, 2, 3, 4}, v{0, 2, 3, 1}, v{1, 2, 3, 4}, 1, 0},
		{v{0, 2, 3, 1}, v{1, 2, 3, 4}, v{1, 2, 3, 4}, -1, 4},
		{v{}, v{0, 0, 0, 1}, v{0, 0, 0, 1}, -1, 1},
		{v{1, 0, 0, 0}, v{}, v{1, 0, 0, 0}, 1, 0},
		{v{}, v{400, 400, 400, 400}, v{400, 400, 400, 400}, -1, 1600},
		{v{1, 0, 9, 0}, v{0, 2, 3, 0}, v{1, 2, 9, 0}, 2, 2},
		{v{0, 2, 3, 0}, v{1, 0, 9, 0}, v{1, 2, 9, 0}, 2, 7},
		{v{9, 0, 0, 0}, v{0, 0, 0, 9}, v{9, 0, 0, 9}, 2, 9},
		{v{-5, 0, 0, 0}, v{}, v{}, -1, 5},
		{v{}, v{-5, 0, 0, 0}, v{}, 1, 0},
		{v{1 << 57, -1 << 57, 0, 0}, v{0, 1 << 57, 0, 0}, v{1 << 57, 1 << 57, 0, 0}, 2, 1 << 58},
	} {
		if j := vector.Join(c.a, c.b); j != c.join {
			t.Errorf("Join(%v, %v): %v, not %v", c.a, c.b, j, c.join)
		}
		if n := vector.Order(c.a, c.b); n != c.order {
			t.Errorf("Order(%v, %v): %d, not %d", c.a, c.b, n, c.order)
		}
		if is := vector.Covers(c.a, c.b); is != (c.order == 0 || c.order == 1) {
			t.Errorf("Covers(%v, %v): %v", c.a, c.b, is)
		}
		if n := vector.Lacks(c.a, c.b); n != c.lacks {
			t.Errorf("Lacks(%v, %v): %d, not %d", c.a, c.b, n, c.lacks)
		}
	}
}

// P20, number by number, as its sentences say it.
func TestOfEachTwo(t *testing.T) {
	for _, l := range [][]v{few(), wide()} {
		for _, a := range l {
			for _, b := range l {
				holdTwo(t, a, b)
			}
		}
	}
}

func holdTwo(t *testing.T, a, b v) {
	t.Helper()
	more, less, lacks := 0, 0, 0
	join := vector.Join(a, b)
	for i := range api.Replicas {
		greater := a[i]
		if b[i] > a[i] {
			more, lacks, greater = more+1, lacks+b[i]-a[i], b[i]
		}
		if b[i] < a[i] {
			less++
		}
		if join[i] != greater {
			t.Errorf("Join(%v, %v): %v", a, b, join)
		}
	}
	order := 2
	switch {
	case more == 0 && less == 0:
		order = 0
	case more == 0:
		order = 1
	case less == 0:
		order = -1
	}
	if n := vector.Order(a, b); n != order {
		t.Errorf("Order(%v, %v): %d, not %d", a, b, n, order)
	}
	if is := vector.Covers(a, b); is != (more == 0) {
		t.Errorf("Covers(%v, %v): %v", a, b, is)
	}
	if n := vector.Lacks(a, b); n != lacks {
		t.Errorf("Lacks(%v, %v): %d, not %d", a, b, n, lacks)
	}
}

// P22: which is joined first, and to which, and how often, is all the same.
func TestJoinedInAnyOrder(t *testing.T) {
	l := few()
	for _, a := range l {
		if vector.Join(a, a) != a || vector.Join(a, v{}) != a {
			t.Errorf("%v: joined to itself, or to what knows nothing, it is not itself", a)
		}
		for _, b := range l {
			join := vector.Join(a, b)
			if vector.Join(b, a) != join || vector.Join(join, a) != join || vector.Join(join, b) != join {
				t.Errorf("%v, %v: the order shows", a, b)
			}
			for _, c := range l {
				if vector.Join(join, c) != vector.Join(a, vector.Join(b, c)) {
					t.Errorf("%v, %v, %v: the order shows", a, b, c)
				}
			}
		}
	}
}

// P22: a row of vectors, joined in each of its orders.
func TestRowsJoinedInAnyOrder(t *testing.T) {
	row := []v{{3, 0, 1, 0}, {0, 400, 0, 2}, {1, 1, 1, 1}, {3, 0, 0, 9}, {}}
	orders := 0
	eachOrder(row, 0, func(l []v) {
		orders++
		joined := v{}
		for _, x := range l {
			joined = vector.Join(joined, x)
		}
		if joined != (v{3, 400, 1, 9}) {
			t.Errorf("%v: %v", l, joined)
		}
	})
	if orders != 120 {
		t.Errorf("%d orders", orders)
	}
}

func eachOrder(l []v, from int, visit func([]v)) {
	if from == len(l) {
		visit(l)
		return
	}
	for i := from; i < len(l); i++ {
		l[from], l[i] = l[i], l[from]
		eachOrder(l, from+1, visit)
		l[from], l[i] = l[i], l[from]
	}
}

// What is joined covers, lacks nothing, and is the least that does so.
func TestJoinedCovers(t *testing.T) {
	l := few()
	for _, a := range l {
		for _, b := range l {
			join := vector.Join(a, b)
			if !vector.Covers(join, a) || !vector.Covers(join, b) || vector.Lacks(join, a) != 0 || vector.Lacks(join, b) != 0 {
				t.Errorf("%v, %v: %v does not cover both", a, b, join)
			}
			for _, c := range l {
				if vector.Covers(c, a) && vector.Covers(c, b) && !vector.Covers(c, join) {
					t.Errorf("%v, %v: %v is not the least", a, b, join)
				}
			}
		}
	}
}

// P4: what is handed over is only read.
func TestVectorsAreValues(t *testing.T) {
	a, b := v{1, 0, 3, 0}, v{0, 2, 0, 4}
	j := vector.Join(a, b)
	j[0] = 9
	vector.Order(a, b)
	vector.Covers(a, b)
	vector.Lacks(a, b)
	if a != (v{1, 0, 3, 0}) || b != (v{0, 2, 0, 4}) {
		t.Errorf("%v, %v", a, b)
	}
}

// P1: numbers without bounds are borne; what is answered of them is not promised.
func TestNumbersWithoutBounds(t *testing.T) {
	for _, a := range []v{{math.MinInt, math.MinInt, math.MinInt, math.MinInt}, {math.MaxInt, math.MaxInt, math.MaxInt, math.MaxInt}, {math.MinInt, math.MaxInt}} {
		for _, b := range []v{a, {}, {math.MaxInt, math.MinInt, math.MaxInt, math.MinInt}} {
			vector.Join(a, b)
			vector.Covers(a, b)
			vector.Order(a, b)
			vector.Lacks(a, b)
		}
		if _, err := vector.Read(a.Text()); err != api.ErrText {
			t.Errorf("%v: %v", a, err)
		}
	}
}
