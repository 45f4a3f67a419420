package stamp_test

import (
	"math"
	"reflect"
	"testing"

	"concordat/api"
	"concordat/stamp"
)

func newClock(t *testing.T, by int) *stamp.Clock {
	t.Helper()
	c, err := stamp.New(by)
	if c == nil || err != nil {
		t.Fatalf("New(%d): %v, %v", by, c, err)
	}
	return c
}

func clockAt(t *testing.T, by, time int) *stamp.Clock {
	t.Helper()
	c := newClock(t, by)
	if err := c.Hear(at(time, by)); err != nil {
		t.Fatal(err)
	}
	return c
}

func TestNewClockOfEachReplica(t *testing.T) {
	for by := range api.Replicas {
		c := newClock(t, by)
		if c.Time() != 0 || c.By() != by {
			t.Errorf("replica %d: time %d, by %d", by, c.Time(), c.By())
		}
		if s, err := c.Tick(); s != at(1, by) || err != nil {
			t.Errorf("replica %d: %v, %v", by, s, err)
		}
	}
}

func TestNoClockOfNoReplica(t *testing.T) {
	for _, by := range []int{math.MinInt, -1, api.Replicas, math.MaxInt} {
		if c, err := stamp.New(by); c != nil || err != api.ErrBound {
			t.Errorf("New(%d): %v, %v, not nil, ErrBound", by, c, err)
		}
	}
}

func TestTickIsOneMore(t *testing.T) {
	c := newClock(t, 2)
	for time := 1; time <= 50; time++ {
		if s, err := c.Tick(); s != at(time, 2) || err != nil || c.Time() != time {
			t.Fatalf("tick %d: %v, %v, time %d", time, s, err, c.Time())
		}
	}
}

func TestHearTakesMoreOnly(t *testing.T) {
	c := newClock(t, 1)
	for _, x := range []struct{ hear, time int }{{1, 1}, {7, 7}, {6, 7}, {7, 7}, {1, 7}, {8, 8}, {api.MaxTime, api.MaxTime}, {3, api.MaxTime}} {
		if err := c.Hear(at(x.hear, 3)); err != nil || c.Time() != x.time {
			t.Errorf("heard %d: %v, time %d, not %d", x.hear, err, c.Time(), x.time)
		}
	}
	if c.By() != 1 {
		t.Errorf("it took over whose stamp it heard: %d", c.By())
	}
}

func TestTickAtTheEndOfTime(t *testing.T) {
	c := clockAt(t, 0, api.MaxTime-1)
	if s, err := c.Tick(); s != at(api.MaxTime, 0) || err != nil {
		t.Fatalf("the last one: %v, %v", s, err)
	}
	for range 3 {
		if s, err := c.Tick(); s != (api.Stamp{}) || err != api.ErrFull || c.Time() != api.MaxTime {
			t.Errorf("behind the last one: %v, %v, time %d", s, err, c.Time())
		}
	}
	if err := c.Hear(at(api.MaxTime, 3)); err != nil || c.Time() != api.MaxTime {
		t.Errorf("hearing at the end: %v, time %d", err, c.Time())
	}
}

// P3: a call that answers an error changes nothing.
func TestWrongStampsAreNotHeard(t *testing.T) {
	for _, s := range wrongStamps() {
		c := clockAt(t, 3, 5)
		if err := c.Hear(s); err != api.ErrBound || c.Time() != 5 || c.By() != 3 {
			t.Errorf("Hear(%v): %v, time %d, by %d", s, err, c.Time(), c.By())
		}
		if next, err := c.Tick(); next != at(6, 3) || err != nil {
			t.Errorf("behind Hear(%v): %v, %v", s, next, err)
		}
	}
}

// P1: New answers a nil clock with its error; its methods bear that.
func TestNilClock(t *testing.T) {
	c, _ := stamp.New(-1)
	if s, err := c.Tick(); s != (api.Stamp{}) || err != api.ErrBound {
		t.Errorf("Tick: %v, %v", s, err)
	}
	for _, s := range []api.Stamp{at(1, 0), at(0, 0)} {
		if err := c.Hear(s); err != api.ErrBound {
			t.Errorf("Hear(%v): %v", s, err)
		}
	}
	if c.Time() != 0 || c.By() != 0 {
		t.Errorf("time %d, by %d", c.Time(), c.By())
	}
}

// P2: clocks, also of one replica, know nothing of each other, and the same calls answer the same.
func TestClocksAreTheirOwn(t *testing.T) {
	a, b := newClock(t, 1), newClock(t, 1)
	a.Hear(at(9, 0))
	if a == b || b.Time() != 0 {
		t.Errorf("what one heard shows in the other: %d", b.Time())
	}
	b.Hear(at(9, 0))
	for range 5 {
		s, errA := a.Tick()
		u, errB := b.Tick()
		if s != u || errA != nil || errB != nil {
			t.Errorf("%v, %v; %v, %v", s, errA, u, errB)
		}
	}
}

// P4: what was told or heard may be changed afterwards.
func TestClockKeepsNothingOfOthers(t *testing.T) {
	c := newClock(t, 0)
	heard := at(4, 1)
	c.Hear(heard)
	heard.Time = 40
	told, _ := c.Tick()
	told.Time, told.By = 50, 3
	if s, err := c.Tick(); s != at(6, 0) || err != nil {
		t.Errorf("%v, %v, not (6, 0); heard %v, told %v", s, err, heard, told)
	}
}

// The document does not spell the clock's fields out: none of them may be exported, and none of the embedded stamp's may be reached from outside.
func TestClockHasNoExportedField(t *testing.T) {
	clock := reflect.TypeFor[stamp.Clock]()
	for i := range clock.NumField() {
		if f := clock.Field(i); f.IsExported() {
			t.Errorf("field %s is exported", f.Name)
		}
	}
	for _, name := range []string{"Time", "By"} {
		if _, ok := reflect.PointerTo(clock).MethodByName(name); !ok {
			t.Errorf("no method %s stands ahead of the embedded stamp's field", name)
		}
	}
}

const rowLength = 5

// P12: over all rows of a few calls, each stamp that is told is more than all that were heard or told ahead of it, by just one in its time.
func TestToldIsMoreThanHeard(t *testing.T) {
	hears := []api.Stamp{at(1, 0), at(2, 3), at(3, 1), at(3, 2), at(api.MaxTime-1, 3), at(api.MaxTime, 0), at(0, 1), at(5, api.Replicas)}
	rows := 1
	for range rowLength {
		rows *= len(hears) + 1
	}
	for by := range api.Replicas {
		for row := range rows {
			playRow(t, by, row, hears)
			if t.Failed() {
				t.Fatalf("replica %d, row %d", by, row)
			}
		}
	}
}

// playRow reads row as digits, one a call: 0 ticks, another one hears.
func playRow(t *testing.T, by, row int, hears []api.Stamp) {
	t.Helper()
	c := newClock(t, by)
	var known []api.Stamp
	latest := 0
	for range rowLength {
		n := row % (len(hears) + 1)
		row /= len(hears) + 1
		if n > 0 {
			s := hears[n-1]
			if err := c.Hear(s); err != stamp.Check(s) {
				t.Errorf("Hear(%v): %v", s, err)
			} else if err == nil {
				known, latest = append(known, s), max(latest, s.Time)
			}
			continue
		}
		s, err := c.Tick()
		if latest == api.MaxTime {
			if s != (api.Stamp{}) || err != api.ErrFull {
				t.Errorf("full: %v, %v", s, err)
			}
			continue
		}
		latest++
		if s != at(latest, by) || err != nil || stamp.Check(s) != nil {
			t.Errorf("Tick: %v, %v, not time %d", s, err, latest)
		}
		for _, k := range known {
			if !stamp.Less(k, s) {
				t.Errorf("%v was known, and %v was told later", k, s)
			}
		}
		known = append(known, s)
	}
}
