package side_test

import (
	"reflect"
	"slices"
	"testing"

	"concordat/api"
	"concordat/plain"
	"concordat/play"
	"concordat/side"
)

// makes a node in Root.
func makes(time, by, n int, name string) api.Op {
	return api.Op{S: api.Stamp{Time: time, By: by}, N: n, Kind: api.Move, Node: 4*time + by, Name: name}
}

// holdMerges: so many workers tell just this.
func holdMerges(t *testing.T, l [][][]api.Op, workers int, want ...string) {
	t.Helper()
	if got, err := side.Merges(l, workers); err != nil || !slices.Equal(got, want) {
		t.Fatalf("Merges(%v) by %d: %q, %v, not %q", l, workers, got, err, want)
	}
}

// holdBareMerges: just this error, bare, and nothing with it.
func holdBareMerges(t *testing.T, l [][][]api.Op, workers int, want error) {
	t.Helper()
	if got, err := side.Merges(l, workers); len(got) != 0 || err != want {
		t.Errorf("Merges of %d by %d: %q, %v, not %v", len(l), workers, got, err, want)
	}
}

// holdNoMerges: just this error, with the place of its lists, and no other place inside.
func holdNoMerges(t *testing.T, l [][][]api.Op, workers, at int, want error) {
	t.Helper()
	got, err := side.Merges(l, workers)
	if f, is := err.(*api.Fault); len(got) != 0 || !is || f.At != at || f.Err != want {
		t.Errorf("Merges(%v) by %d: %q, %#v, not %v at %d", l, workers, got, err, want, at)
	}
}

// P120: of nothing nothing; of no lists, or empty ones, an empty state.
func TestMergesNothing(t *testing.T) {
	for workers := 1; workers <= api.Workers; workers++ {
		holdMerges(t, nil, workers)
		holdMerges(t, [][][]api.Op{}, workers)
		holdMerges(t, [][][]api.Op{nil}, workers, "")
		holdMerges(t, [][][]api.Op{{}, nil, {nil}, {{}, nil}}, workers, "", "", "", "")
	}
}

// P120: each is merged by itself: what another one has is not known there.
func TestMerges(t *testing.T) {
	a, b, z := makes(1, 0, 1, "a"), makes(2, 0, 2, "b"), makes(1, 3, 1, "z")
	x := api.Op{S: api.Stamp{Time: 3, By: 3}, N: 2, Kind: api.Insert, Node: 7, Value: "X"}
	other := makes(1, 0, 1, "other") // instead of a
	l := [][][]api.Op{
		{{a}, {a}},
		nil,
		{{b, a}},
		{{z, x}, nil, {a, b}},
		{{other}},
		{{z}, {x}},
	}
	want := []string{
		"4 in 0 a", "", "4 in 0 a\n8 in 0 b", "4 in 0 a\n7 in 0 z\n8 in 0 b\n7 text X", "4 in 0 other", "7 in 0 z\n7 text X",
	}
	for workers := 1; workers <= api.Workers; workers++ {
		holdMerges(t, l, workers, want...)
		for from := range l {
			holdMerges(t, l[from:], workers, want[from:]...)
		}
	}
}

// P120: the error of the first that has one; its place is that of the lists, not of a list or an operation among them.
func TestMergesErrors(t *testing.T) {
	a, b, c := makes(1, 0, 1, "a"), makes(2, 0, 2, "b"), makes(3, 0, 3, "c")
	kind, name, lost := b, b, b
	kind.Kind, name.Name, lost.Other = 'x', "B", 7
	var many []api.Op
	for i := range api.MaxOps + 1 {
		many = append(many, makes(i+1, i%2, i/2+1, "n"))
	}
	well := [][]api.Op{{a}, {b}}
	for _, x := range []struct {
		l   [][][]api.Op
		at  int
		err error
	}{
		{[][][]api.Op{{{{}}}}, 0, api.ErrBound},
		{[][][]api.Op{nil, {{{}}}}, 1, api.ErrBound},
		{[][][]api.Op{well, nil, well, {{a}, {b}, {a, b, c, {}}}}, 3, api.ErrBound},
		{[][][]api.Op{well, {{a}, nil, {kind}}, well}, 1, api.ErrKind},
		{[][][]api.Op{well, well, {{a, name}}}, 2, api.ErrName},
		{[][][]api.Op{{{a}, {makes(1, 0, 1, "b")}}, well}, 0, api.ErrExist},
		{[][][]api.Op{well, {{a}, {c}}}, 1, api.ErrGap}, // well has b: that does not help
		{[][][]api.Op{{{b, a}, {makes(1, 0, 3, "c")}}}, 0, api.ErrShape},
		{[][][]api.Op{well, well, well, well, {{a}, {lost}}}, 4, api.ErrNone},
		{[][][]api.Op{{many[:api.MaxOps]}, {many}}, 1, api.ErrFull},
		// Of several the first one, also where it takes longer than those behind it.
		{[][][]api.Op{well, {{a}, {c}}, {{{}}}, {{kind}}}, 1, api.ErrGap},
		{[][][]api.Op{well, {{{}}}, {{a}, {c}}, {{a}, {lost}}}, 1, api.ErrBound},
		{[][][]api.Op{{many[:100], many[:200], many[:300], many[:400], many}, {{{}}}, {{kind}}, {{name}}}, 0, api.ErrFull},
		{[][][]api.Op{{many[:api.MaxOps]}, {many[:api.MaxOps], many}, {{{}}}, nil, {{b}}}, 1, api.ErrFull},
	} {
		for workers := 1; workers <= api.Workers; workers++ {
			holdNoMerges(t, x.l, workers, x.at, x.err)
		}
	}
}

// P120: there may be 100, and no more; where there are more, nothing is told of them.
func TestMergesBound(t *testing.T) {
	a := makes(1, 0, 1, "a")
	full := slices.Repeat([][][]api.Op{{{a}}}, 100)
	want := slices.Repeat([]string{"4 in 0 a"}, 100)
	for workers := 1; workers <= api.Workers; workers++ {
		holdMerges(t, full, workers, want...)
		holdMerges(t, full[:99], workers, want[:99]...)
		holdNoMerges(t, slices.Concat(full[:99], [][][]api.Op{{{{}}}}), workers, 99, api.ErrBound)
		holdBareMerges(t, slices.Concat(full, [][][]api.Op{nil}), workers, api.ErrBound)
		holdBareMerges(t, slices.Concat([][][]api.Op{{{a}, {a, makes(1, 0, 1, "b")}}}, full), workers, api.ErrBound)
		holdBareMerges(t, make([][][]api.Op, 5000), workers, api.ErrBound)
	}
}

// P120: a wrong number of workers is told ahead of all else.
func TestMergesWorkers(t *testing.T) {
	for _, workers := range wrong {
		for _, l := range [][][][]api.Op{nil, {}, {nil}, {{{{}}}}, make([][][]api.Op, 100), make([][][]api.Op, 101)} {
			holdBareMerges(t, l, workers, api.ErrShape)
		}
	}
}

// P120, P121: lists that are cut out of plays, by any number of workers, make what each makes alone.
func TestMergesByAnyNumber(t *testing.T) {
	faults, states := 0, 0
	for seed := range 40 {
		x := row(seed)
		var l [][][]api.Op
		for range 1 + x.next(8) {
			l = append(l, x.lists(t))
		}
		want, at, code := mergesAlone(l)
		if code == 0 {
			states++
		} else {
			faults++
		}
		for workers := 1; workers <= api.Workers; workers++ {
			got, err := side.Merges(l, workers)
			gotCode, gotAt := plain.Code(err)
			if !slices.Equal(got, want) || gotCode != code || gotAt != at {
				t.Fatalf("%d by %d: %q, %d at %d, not %q, %d at %d", seed, workers, got, gotCode, gotAt, want, code, at)
			}
		}
	}
	if faults < 5 || states < 5 {
		t.Errorf("%d with an error, %d without", faults, states)
	}
}

// lists of what the replicas of a play know, of which one operation may be left out.
func (r *row) lists(t *testing.T) [][]api.Op {
	_, m := alone(t, r.script(20+r.next(150)))
	var lists [][]api.Op
	for n := range 3 {
		p, err := m.Replica(n)
		if err != nil {
			t.Fatal(err)
		}
		l := p.Ops()
		if len(l) > 0 && r.next(15) == 0 {
			at := r.next(len(l))
			l = slices.Delete(l, at, at+1)
		}
		lists = append(lists, l)
	}
	return lists
}

// mergesAlone is P120 one behind the other.
func mergesAlone(l [][][]api.Op) (states []string, at, code int) {
	for i, lists := range l {
		s, err := play.Merge(lists)
		if err != nil {
			code, _ = plain.Code(err)
			return nil, i, code
		}
		states = append(states, s)
	}
	return states, -1, 0
}

// P4: lists are only read, also behind their lengths, and where several workers have the same ones.
func TestMergesOnlyReads(t *testing.T) {
	long := []api.Op{makes(3, 0, 3, "c"), makes(1, 0, 1, "a"), makes(2, 0, 2, "b"), makes(4, 0, 4, "d")}
	was := slices.Clone(long)
	lists := [][]api.Op{long[1:2], long[:3], {}, nil}
	l := [][][]api.Op{lists[:2], lists, lists[:1], lists[:2], {{{}}}}
	state := "4 in 0 a\n8 in 0 b\n12 in 0 c"
	for range 5 {
		holdMerges(t, l[:4], api.Workers, state, state, "4 in 0 a", state)
		if !slices.Equal(long, was) || !reflect.DeepEqual(l[4], [][]api.Op{{{}}}) || len(lists[1]) != 3 {
			t.Fatalf("changed: %v", l)
		}
	}
	got, err := side.Merges(l[:4], 2)
	clear(long)
	if err != nil || !slices.Equal(got, []string{state, state, "4 in 0 a", state}) {
		t.Errorf("%q, %v", got, err)
	}
}
