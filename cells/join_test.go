package cells_test

import (
	"testing"

	"concordat/cells"
)

// P61: of each mark the one with the greater stamp, from whichever side; an empty one, too.
func TestJoined(t *testing.T) {
	a := marked(t, set(5, 1, 4, "m", "a"), set(5, 1, 4, "n", "a"), set(6, 0, 4, "o", ""), set(6, 0, 4, "p", "a"), set(2, 0, 1, "only-a", "a"))
	b := marked(t, set(5, 0, 4, "m", "b"), set(5, 2, 4, "n", "b"), set(5, 3, 4, "o", "b"), set(7, 0, 4, "p", ""), set(3, 0, 8, "only-b", "b"))
	for _, c := range []*cells.Cells{cells.Join(a, b), cells.Join(b, a)} {
		checkMarks(t, c, []cells.Mark{{1, "only-a", "a"}, {4, "m", "a"}, {4, "n", "b"}, {8, "only-b", "b"}}...)
		checkGet(t, c, set(5, 1, 4, "m", "a"))
		checkGet(t, c, set(5, 2, 4, "n", "b"))
		checkGet(t, c, set(6, 0, 4, "o", ""))
		checkGet(t, c, set(7, 0, 4, "p", ""))
		checkGet(t, c, set(2, 0, 1, "only-a", "a"))
		checkGet(t, c, set(3, 0, 8, "only-b", "b"))
	}
}

// P61: of the same stamp a's, also if it is empty.
func TestJoinedOfTheSameStamp(t *testing.T) {
	for _, values := range [][2]string{{"x", "y"}, {"y", "x"}, {"", "x"}, {"x", ""}} {
		here, there := set(5, 1, 4, "m", values[0]), set(5, 1, 4, "m", values[1])
		a, b := marked(t, here), marked(t, there)
		checkGet(t, cells.Join(a, b), here)
		checkGet(t, cells.Join(b, a), there)
	}
}

// P61: nil is none, on either side; what is answered is never nil.
func TestJoinedWithNil(t *testing.T) {
	c := marked(t, few()...)
	for _, x := range []*cells.Cells{cells.Join(c, nil), cells.Join(nil, c), cells.Join(c, c), cells.Join(c, cells.New()), cells.Join(cells.New(), c), cells.Join(c, &cells.Cells{})} {
		checkFew(t, x)
		if x == c {
			t.Error("not new")
		}
	}
	// P1: zero ones, which no call gave, may be handed over, too.
	for _, x := range []*cells.Cells{cells.Join(nil, nil), cells.Join(cells.New(), nil), cells.Join(&cells.Cells{}, &cells.Cells{})} {
		if x == nil {
			t.Fatal("nil")
		}
		checkMarks(t, x)
		checkNever(t, x, 4, "m")
		for _, o := range few() {
			checkSet(t, x, o, true)
		}
		checkFew(t, x)
	}
}

// Nil cells are ones without marks to those who look at them.
func TestNilCells(t *testing.T) {
	var c *cells.Cells
	checkMarks(t, c)
	checkNever(t, c, 4, "m")
}

// P4: what is joined is only read, and what comes later shows on no other side.
func TestJoinedIsNewMemory(t *testing.T) {
	a, b := marked(t, few()[:3]...), marked(t, few()[2:]...)
	c, d := cells.Join(a, b), cells.Join(a, nil)
	checkFew(t, c)
	late := set(9, 0, 4, "m", "late")
	checkSet(t, c, late, true)
	checkGet(t, a, few()[0])
	checkNever(t, b, 4, "m")
	checkGet(t, d, few()[0])
	checkSet(t, a, set(8, 0, 4, "a", "mid"), true)
	checkSet(t, b, set(8, 0, 8, "m", "mid"), true)
	checkGet(t, c, few()[1])
	checkGet(t, c, few()[3])
	checkGet(t, d, few()[1])
	checkGet(t, c, late)
	checkMarks(t, a, []cells.Mark{{4, "a", "mid"}, {4, "m", "x"}}...)
	checkMarks(t, b, []cells.Mark{{0, "m", "r"}, {8, "m", "mid"}}...)
}

// P61: stamps come along: behind a join, what is set is held against them.
func TestSetBehindJoin(t *testing.T) {
	a, b := marked(t, set(5, 1, 4, "m", "a")), marked(t, set(6, 1, 8, "m", "b"))
	c := cells.Join(a, b)
	checkSet(t, c, set(5, 0, 4, "m", "no"), false)
	checkSet(t, c, set(6, 1, 8, "m", "no"), false)
	checkSet(t, c, set(5, 2, 4, "m", "yes"), true)
	checkSet(t, c, set(6, 2, 8, "m", "yes"), true)
	checkMarks(t, c, []cells.Mark{{4, "m", "yes"}, {8, "m", "yes"}}...)
}
