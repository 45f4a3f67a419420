package stamp_test

import (
	"math"
	"slices"
	"testing"

	"concordat/api"
	"concordat/stamp"
)

// The face that is given: a changed signature does not compile.
var (
	_ func(api.Stamp) error                 = stamp.Check
	_ func(a, b api.Stamp) bool             = stamp.Less
	_ func(api.Stamp) (int, error)          = stamp.ID
	_ func(int) (api.Stamp, error)          = stamp.Of
	_ func(int) (*stamp.Clock, error)       = stamp.New
	_ func(*stamp.Clock) (api.Stamp, error) = (*stamp.Clock).Tick
	_ func(*stamp.Clock, api.Stamp) error   = (*stamp.Clock).Hear
	_ func(*stamp.Clock) int                = (*stamp.Clock).Time
)

func at(time, by int) api.Stamp { return api.Stamp{Time: time, By: by} }

func rightStamps() []api.Stamp {
	var l []api.Stamp
	for _, time := range []int{1, 2, 3, 1000, api.MaxTime - 1, api.MaxTime} {
		for by := range api.Replicas {
			l = append(l, at(time, by))
		}
	}
	return l
}

func wrongStamps() []api.Stamp {
	l := []api.Stamp{at(math.MinInt, math.MinInt), at(math.MaxInt, math.MaxInt)}
	for _, time := range []int{math.MinInt, -1, 0, api.MaxTime + 1, math.MaxInt} {
		for by := range api.Replicas {
			l = append(l, at(time, by))
		}
	}
	for _, by := range []int{math.MinInt, -1, api.Replicas, math.MaxInt} {
		for _, time := range []int{1, 7, api.MaxTime} {
			l = append(l, at(time, by))
		}
	}
	return l
}

// P10, P3: errors are bare, so they are held against each other by !=, not by errors.Is.
func TestCheckTellsRightStamps(t *testing.T) {
	for _, s := range rightStamps() {
		if err := stamp.Check(s); err != nil {
			t.Errorf("Check(%v): %v", s, err)
		}
	}
	for _, s := range wrongStamps() {
		if err := stamp.Check(s); err != api.ErrBound {
			t.Errorf("Check(%v): %v, not ErrBound", s, err)
		}
	}
}

func TestIDOfStamps(t *testing.T) {
	for _, c := range []struct {
		s  api.Stamp
		id int
	}{
		{at(1, 0), 4}, {at(1, 1), 5}, {at(1, 3), 7}, {at(2, 0), 8}, {at(3, 2), 14},
		{at(1<<30, 0), 1 << 32}, {at(1<<30, 3), 1<<32 + 3},
	} {
		if id, err := stamp.ID(c.s); id != c.id || err != nil {
			t.Errorf("ID(%v): %d, %v, not %d", c.s, id, err, c.id)
		}
		if s, err := stamp.Of(c.id); s != c.s || err != nil {
			t.Errorf("Of(%d): %v, %v, not %v", c.id, s, err, c.s)
		}
	}
}

func TestWrongStampsHaveNoID(t *testing.T) {
	for _, s := range wrongStamps() {
		if id, err := stamp.ID(s); id != 0 || err != api.ErrBound {
			t.Errorf("ID(%v): %d, %v, not 0, ErrBound", s, id, err)
		}
	}
}

func TestIDsThatAreNoStamps(t *testing.T) {
	last := api.MaxTime*api.Replicas + api.Replicas - 1
	for _, id := range []int{math.MinInt, math.MinInt + 1, -last, -5, -4, -1, 0, 1, 2, 3, last + 1, last + api.Replicas, math.MaxInt} {
		if s, err := stamp.Of(id); s != (api.Stamp{}) || err != api.ErrBound {
			t.Errorf("Of(%d): %v, %v, not a zero stamp, ErrBound", id, s, err)
		}
	}
}

func TestIDAndOfAreInverse(t *testing.T) {
	for _, s := range rightStamps() {
		id, _ := stamp.ID(s)
		if back, err := stamp.Of(id); back != s || err != nil {
			t.Errorf("%v has the id %d, which has %v, %v", s, id, back, err)
		}
	}
	for id := 4; id < 400; id++ {
		s, err := stamp.Of(id)
		if back, _ := stamp.ID(s); back != id || err != nil {
			t.Errorf("%d is of %v, %v, which has %d", id, s, err, back)
		}
	}
}

func TestLess(t *testing.T) {
	for _, c := range []struct {
		a, b api.Stamp
		less bool
	}{
		{at(1, 0), at(2, 0), true}, {at(2, 0), at(1, 0), false},
		{at(1, 3), at(2, 0), true}, {at(2, 0), at(1, 3), false},
		{at(5, 0), at(5, 1), true}, {at(5, 1), at(5, 0), false},
		{at(5, 1), at(5, 1), false},
		{at(0, 0), at(0, 1), true}, {at(-1, 9), at(0, -9), true},
		{at(math.MinInt, 0), at(math.MaxInt, 0), true}, {at(math.MaxInt, 0), at(math.MinInt, 0), false},
		{at(1, math.MinInt), at(1, math.MaxInt), true}, {at(1, math.MaxInt), at(1, math.MinInt), false},
	} {
		if is := stamp.Less(c.a, c.b); is != c.less {
			t.Errorf("Less(%v, %v): %v", c.a, c.b, is)
		}
	}
}

func TestLessIsOneOrder(t *testing.T) {
	l := slices.Concat(rightStamps(), wrongStamps())
	for _, a := range l {
		for _, b := range l {
			if (a != b) != (stamp.Less(a, b) != stamp.Less(b, a)) {
				t.Errorf("%v, %v: not just one is less", a, b)
			}
			x, errX := stamp.ID(a)
			y, errY := stamp.ID(b)
			if errX == nil && errY == nil && stamp.Less(a, b) != (x < y) {
				t.Errorf("%v, %v: Less is not as their ids", a, b)
			}
		}
	}
}
