package replica_test

import (
	"errors"
	"math"
	"slices"
	"testing"

	"concordat/api"
	"concordat/replica"
)

// bare: no place is told.
const bare = -1

// checkRefused: none are joined, by this error, with its place or bare.
func checkRefused(t *testing.T, r *replica.Replica, l []api.Op, place int, want error) {
	t.Helper()
	n, err := r.Join(l)
	if place == bare && (n != 0 || err != want) {
		t.Errorf("Join(%v): %d, %v, not %v, bare", l, n, err, want)
	}
	var f *api.Fault
	if place != bare && (n != 0 || !errors.As(err, &f) || f.At != place || f.Err != want) {
		t.Errorf("Join(%v): %d, %#v, not %v at %d", l, n, err, want, place)
	}
}

// P72: nothing, and what is known already, is nothing new.
func TestJoinNothingNew(t *testing.T) {
	r := begun(t, 0)
	for _, l := range [][]api.Op{nil, {}, few()[:0]} {
		checkJoin(t, r, l, 0)
	}
	if r.Time() != 0 || r.State() != "" {
		t.Error("something changed")
	}
	checkJoin(t, r, few(), len(few()))
	for _, l := range [][]api.Op{nil, {}, few()[3:4], few(), slices.Concat(few(), few()), r.Ops()} {
		checkJoin(t, r, l, 0)
		checkFew(t, r)
	}
}

// P72: in whatever order they stand, and more than once; how many were new.
func TestJoinInAnyOrder(t *testing.T) {
	var x row
	for by := range api.Replicas {
		for range 200 {
			l := slices.Concat(few(), few()[:x.next(len(few()))])
			x.shuffle(l)
			r := begun(t, by)
			checkJoin(t, r, l, len(few()))
			checkFew(t, r)
		}
	}
}

// P72: of a list with some that are known those that are new are applied.
func TestJoinSomeNew(t *testing.T) {
	for n := range len(few()) + 1 {
		for from := range n + 1 {
			r := joined(t, 1, few()[:n]...)
			checkJoin(t, r, few()[from:], len(few())-n)
			checkFew(t, r)
		}
	}
}

// P72: operations of itself, too, as a replica that begins anew gets them back; it goes on behind them.
func TestJoinItsOwn(t *testing.T) {
	r := joined(t, 2, few()...)
	checkDone(t, r, asksMake(4, "new"))
	again := joined(t, 2, r.Ops()...)
	checkNext(t, again, 12, 6)
	if again.State() != r.State() {
		t.Errorf("%q, not %q", again.State(), r.State())
	}
}

// P72: earlier stamps than what is known may come, and are put where they belong.
func TestJoinEarlierOnes(t *testing.T) {
	r := joined(t, 0, makeNode(1, 0, 1, 0, "a"), makeNode(2, 0, 2, 0, "b"), insert(3, 0, 3, 4, 0, "y"), set(5, 0, 4, 4, "m", "new"), move(9, 0, 5, 4, 8, "in"))
	checkJoin(t, r, []api.Op{move(8, 1, 4, 8, 4, "in"), set(4, 1, 1, 4, "m", "old"), insert(4, 2, 1, 4, 0, "x"), insert(5, 1, 2, 4, 12, "z"), set(6, 1, 3, 4, "m", "mid")}, 5)
	// The earlier move of 8 into 4 did something: the later one does nothing now.
	if s := r.State(); s != "4 in 0 a\n8 in 4 in\n4 text xyz\n4 mark m mid" {
		t.Errorf("%q", s)
	}
	if r.Time() != 9 {
		t.Errorf("time %d", r.Time())
	}
}

// The document's example: two write at the beginning of one text.
func TestTwoWriteAtOnePlace(t *testing.T) {
	made := makeNode(4, 2, 1, 0, "n")
	a, b := joined(t, 0, made), joined(t, 1, made)
	checkDone(t, a, asksWrite(18, 0, 'X'))
	checkDone(t, b, asksWrite(18, 0, 'Y'))
	for _, r := range []*replica.Replica{a, b} {
		checkJoin(t, r, slices.Concat(a.Diff(r.Vector()), b.Diff(r.Vector())), 1)
		if got := r.Text(18); got != "YX" {
			t.Errorf("%q", got)
		}
	}
}

// wrongLists: what is refused with a place, where the few are known.
func wrongLists() []struct {
	l   []api.Op
	at  int
	err error
} {
	next := makeNode(11, 0, 6, 0, "n")
	other := with(next, func(o *api.Op) { o.Name = "other" })
	return []struct {
		l   []api.Op
		at  int
		err error
	}{
		// op.Check's errors.
		{[]api.Op{{}}, 0, api.ErrBound},
		{[]api.Op{few()[0], {}}, 1, api.ErrBound},
		{[]api.Op{next, few()[3], {}, {}}, 2, api.ErrBound},
		{[]api.Op{with(next, func(o *api.Op) { o.S.Time = 0 })}, 0, api.ErrBound},
		{[]api.Op{with(next, func(o *api.Op) { o.S.Time = math.MinInt })}, 0, api.ErrBound},
		{[]api.Op{with(next, func(o *api.Op) { o.S.Time = api.MaxTime + 1 })}, 0, api.ErrBound},
		{[]api.Op{with(next, func(o *api.Op) { o.S.By = -1 })}, 0, api.ErrBound},
		{[]api.Op{with(next, func(o *api.Op) { o.S.By = api.Replicas })}, 0, api.ErrBound},
		{[]api.Op{with(next, func(o *api.Op) { o.S.By = math.MaxInt })}, 0, api.ErrBound},
		{[]api.Op{with(next, func(o *api.Op) { o.N = 0 })}, 0, api.ErrBound},
		{[]api.Op{with(next, func(o *api.Op) { o.N = -1 })}, 0, api.ErrBound},
		{[]api.Op{with(next, func(o *api.Op) { o.N = math.MinInt })}, 0, api.ErrBound},
		{[]api.Op{with(next, func(o *api.Op) { o.N = api.MaxOps + 1 })}, 0, api.ErrBound},
		{[]api.Op{with(next, func(o *api.Op) { o.N = math.MaxInt })}, 0, api.ErrBound},
		{[]api.Op{next, with(next, func(o *api.Op) { o.Kind = 'x' })}, 1, api.ErrKind},
		{[]api.Op{with(next, func(o *api.Op) { o.Node = api.Root })}, 0, api.ErrShape},
		{[]api.Op{with(next, func(o *api.Op) { o.Node = 48 })}, 0, api.ErrShape},
		{[]api.Op{with(next, func(o *api.Op) { o.Other = 44 })}, 0, api.ErrShape},
		{[]api.Op{with(next, func(o *api.Op) { o.Other = -1 })}, 0, api.ErrShape},
		{[]api.Op{next, next, with(next, func(o *api.Op) { o.Name = "" })}, 2, api.ErrName},
		{[]api.Op{insert(11, 0, 6, 4, 12, "xy")}, 0, api.ErrShape},
		{[]api.Op{insert(11, 0, 6, 4, 12, "")}, 0, api.ErrShape},
		{[]api.Op{insert(11, 0, 6, 44, 12, "x")}, 0, api.ErrShape},
		{[]api.Op{remove(11, 0, 6, 4, 0)}, 0, api.ErrShape},
		{[]api.Op{set(11, 0, 6, 4, "m", "\x00")}, 0, api.ErrShape},
		// Another operation has its number, among those that are known or in the list.
		{[]api.Op{makeNode(11, 0, 5, 0, "n")}, 0, api.ErrExist},
		{[]api.Op{makeNode(1, 0, 1, 0, "other")}, 0, api.ErrExist},
		{[]api.Op{makeNode(1, 0, 1, api.Trash, "a")}, 0, api.ErrExist},
		{[]api.Op{with(few()[0], func(o *api.Op) { o.S.Time, o.Node = 2, 8 })}, 0, api.ErrExist},
		{[]api.Op{with(few()[0], func(o *api.Op) { o.N = 2 })}, 0, api.ErrExist},
		{[]api.Op{insert(2, 0, 2, 4, 0, "X")}, 0, api.ErrExist},
		{[]api.Op{remove(2, 0, 2, 4, 5)}, 0, api.ErrExist},
		{[]api.Op{few()[1], few()[2], insert(8, 3, 1, 4, 35-1, "?"), few()[3]}, 2, api.ErrExist},
		{[]api.Op{next, other}, 1, api.ErrExist},
		{[]api.Op{next, next, few()[2], other, next}, 3, api.ErrExist},
		{[]api.Op{next, makeNode(12, 0, 6, 0, "n")}, 1, api.ErrExist},
		{[]api.Op{next, set(11, 0, 6, 4, "n", "")}, 1, api.ErrExist},
		// The first one in the list is told, whatever its error is; of one operation Check's error.
		{[]api.Op{next, other, {}}, 1, api.ErrExist},
		{[]api.Op{next, {}, other}, 1, api.ErrBound},
		{[]api.Op{next, with(next, func(o *api.Op) { o.Name = "N" })}, 1, api.ErrName},
		{[]api.Op{with(few()[0], func(o *api.Op) { o.Value = "v" })}, 0, api.ErrShape},
		// All of them are told ahead of what is bare: gaps, stamps that fall, nodes that are not known.
		{[]api.Op{makeNode(12, 1, 9, 0, "gap"), {}}, 1, api.ErrBound},
		{[]api.Op{makeNode(12, 1, 9, 0, "gap"), next, other}, 2, api.ErrExist},
		{[]api.Op{makeNode(12, 1, 9, 0, "gap"), makeNode(12, 1, 9, 0, "other")}, 1, api.ErrExist},
		{[]api.Op{makeNode(2, 1, 6, 0, "falls"), {}}, 1, api.ErrBound},
		{[]api.Op{makeNode(11, 1, 6, 6, "none"), {}}, 1, api.ErrBound},
	}
}

// P72: *api.Fault At the first that is not well; none is joined, and nothing changes.
func TestJoinNotWell(t *testing.T) {
	r := joined(t, 0, few()...)
	for _, x := range wrongLists() {
		checkRefused(t, r, x.l, x.at, x.err)
		if checkFew(t, r); t.Failed() {
			t.Fatalf("behind %v", x.l)
		}
	}
}

// bareLists: what is refused as a whole, where the few are known (of 0: 5, of 1: 5, of 2: 4, of 3: 1).
func bareLists() []struct {
	l   []api.Op
	err error
} {
	next := makeNode(11, 0, 6, 0, "n")
	return []struct {
		l   []api.Op
		err error
	}{
		// ErrGap: not at the next number, or one is left out, wherever they stand.
		{[]api.Op{makeNode(11, 0, 7, 0, "n")}, api.ErrGap},
		{[]api.Op{makeNode(11, 3, 3, 0, "n")}, api.ErrGap},
		{[]api.Op{makeNode(11, 3, api.MaxOps, 0, "n")}, api.ErrGap},
		{[]api.Op{next, makeNode(12, 0, 8, 0, "n")}, api.ErrGap},
		{[]api.Op{makeNode(12, 0, 8, 0, "n"), next}, api.ErrGap},
		{[]api.Op{makeNode(13, 0, 8, 0, "n"), makeNode(12, 0, 7, 0, "n")}, api.ErrGap},
		{[]api.Op{next, makeNode(12, 1, 7, 0, "n")}, api.ErrGap},
		{[]api.Op{few()[0], next, next, makeNode(12, 2, 6, 0, "n"), makeNode(13, 2, 7, 0, "n")}, api.ErrGap},
		// ErrShape: with rising numbers a stamp does not rise, against known ones or in the list.
		{[]api.Op{makeNode(7, 0, 6, 0, "n")}, api.ErrShape},
		{[]api.Op{makeNode(6, 0, 6, 0, "n")}, api.ErrShape},
		{[]api.Op{makeNode(1, 0, 6, 0, "n")}, api.ErrShape},
		{[]api.Op{makeNode(8, 3, 2, 0, "n")}, api.ErrShape},
		{[]api.Op{next, makeNode(11, 0, 7, 0, "n")}, api.ErrShape},
		{[]api.Op{next, makeNode(10, 0, 7, 0, "n")}, api.ErrShape},
		{[]api.Op{makeNode(10, 0, 7, 0, "n"), next}, api.ErrShape},
		{[]api.Op{makeNode(13, 0, 6, 0, "n"), makeNode(12, 0, 7, 0, "n"), makeNode(14, 0, 8, 0, "n")}, api.ErrShape},
		{[]api.Op{next, makeNode(11, 1, 6, 0, "n"), makeNode(12, 1, 7, 0, "n"), makeNode(12, 1, 8, 0, "n")}, api.ErrShape},
		// A gap is told ahead of it, also another replica's, which has a later number.
		{[]api.Op{makeNode(7, 0, 6, 0, "n"), makeNode(12, 1, 9, 0, "n")}, api.ErrGap},
		{[]api.Op{makeNode(12, 1, 9, 0, "n"), makeNode(7, 0, 6, 0, "n")}, api.ErrGap},
		{[]api.Op{makeNode(7, 0, 6, 0, "n"), makeNode(6, 0, 8, 0, "n")}, api.ErrGap},
		// ErrNone: about no node, into none, behind or about no letter of it.
		{[]api.Op{move(11, 0, 6, 6, 0, "n")}, api.ErrNone},
		{[]api.Op{move(11, 0, 6, 2, 0, "n")}, api.ErrNone},
		{[]api.Op{move(11, 0, 6, 8, 0, "n")}, api.ErrNone},
		{[]api.Op{move(11, 0, 6, 16, 0, "n")}, api.ErrNone},
		{[]api.Op{makeNode(11, 0, 6, 2, "n")}, api.ErrNone},
		{[]api.Op{makeNode(11, 0, 6, 3, "n")}, api.ErrNone},
		{[]api.Op{makeNode(11, 0, 6, 43, "n")}, api.ErrNone},
		{[]api.Op{makeNode(11, 0, 6, 12, "n")}, api.ErrNone},
		{[]api.Op{move(11, 0, 6, 4, 12, "n")}, api.ErrNone},
		{[]api.Op{move(11, 0, 6, 4, 17, "n")}, api.ErrNone},
		{[]api.Op{insert(11, 0, 6, 43, 0, "x")}, api.ErrNone},
		{[]api.Op{insert(11, 0, 6, 8, 0, "x")}, api.ErrNone},
		{[]api.Op{insert(11, 0, 6, 17, 0, "x")}, api.ErrNone},
		{[]api.Op{insert(11, 0, 6, api.Root, 0, "x")}, api.ErrNone},
		{[]api.Op{insert(11, 0, 6, api.Trash, 0, "x")}, api.ErrNone},
		{[]api.Op{insert(11, 0, 6, 4, 9, "x")}, api.ErrNone},
		{[]api.Op{insert(11, 0, 6, 5, 8, "x")}, api.ErrNone},
		{[]api.Op{insert(11, 0, 6, 4, 4, "x")}, api.ErrNone},
		{[]api.Op{insert(11, 0, 6, 4, 5, "x")}, api.ErrNone},
		{[]api.Op{insert(11, 0, 6, 4, 1, "x")}, api.ErrNone},
		{[]api.Op{insert(11, 0, 6, 4, 43, "x")}, api.ErrNone},
		{[]api.Op{insert(11, 0, 6, 4, 17, "x")}, api.ErrNone},
		{[]api.Op{insert(11, 0, 6, 4, 21, "x")}, api.ErrNone},
		{[]api.Op{remove(11, 0, 6, 4, 9)}, api.ErrNone},
		{[]api.Op{remove(11, 0, 6, 4, 4)}, api.ErrNone},
		{[]api.Op{remove(11, 0, 6, 4, 1)}, api.ErrNone},
		{[]api.Op{remove(11, 0, 6, 4, 43)}, api.ErrNone},
		{[]api.Op{remove(11, 0, 6, 4, 21)}, api.ErrNone},
		{[]api.Op{remove(11, 0, 6, api.Root, 8)}, api.ErrNone},
		{[]api.Op{remove(11, 0, 6, 38, 34)}, api.ErrNone},
		{[]api.Op{remove(11, 0, 6, 8, 8)}, api.ErrNone},
		{[]api.Op{set(11, 0, 6, api.Root, "m", "v")}, api.ErrNone},
		{[]api.Op{set(11, 0, 6, api.Trash, "m", "v")}, api.ErrNone},
		{[]api.Op{set(11, 0, 6, 3, "m", "v")}, api.ErrNone},
		{[]api.Op{set(11, 0, 6, 12, "m", "v")}, api.ErrNone},
		{[]api.Op{set(11, 0, 6, 43, "m", "")}, api.ErrNone},
		{[]api.Op{next, set(11, 1, 6, 43, "m", "")}, api.ErrNone},
		// A new letter of one node is none of another one.
		{[]api.Op{insert(11, 0, 6, 4, 12, "x"), remove(11, 1, 6, 5, 44)}, api.ErrNone},
		{[]api.Op{insert(11, 0, 6, 4, 12, "x"), insert(11, 1, 6, 5, 44, "y")}, api.ErrNone},
		{[]api.Op{insert(11, 0, 6, 4, 12, "x"), makeNode(11, 1, 6, 44, "y")}, api.ErrNone},
		{[]api.Op{next, insert(11, 1, 6, 44, 44, "y")}, api.ErrNone},
		// It is told behind gaps and stamps that do not rise.
		{[]api.Op{set(11, 0, 7, 43, "m", "")}, api.ErrGap},
		{[]api.Op{set(11, 0, 6, 43, "m", ""), makeNode(11, 1, 7, 0, "n")}, api.ErrGap},
		{[]api.Op{set(7, 0, 6, 6, "m", "")}, api.ErrShape},
		{[]api.Op{set(11, 0, 6, 43, "m", ""), makeNode(6, 1, 6, 0, "n")}, api.ErrShape},
	}
}

// P72: these errors are bare; all or none: nothing changes, though a part of the list were right.
func TestJoinBare(t *testing.T) {
	good := []api.Op{insert(20, 3, 2, 42, 0, "g"), set(21, 3, 3, 4, "m", "good")}
	for by := range api.Replicas {
		r := joined(t, by, few()...)
		for _, x := range bareLists() {
			for _, l := range [][]api.Op{x.l, slices.Concat(few(), x.l), slices.Concat(x.l, few())} {
				checkRefused(t, r, l, bare, x.err)
			}
			if x.l[0].S.By != 3 {
				checkRefused(t, r, slices.Concat(good, x.l), bare, x.err)
				checkRefused(t, r, slices.Concat(x.l, good), bare, x.err)
			}
			if checkFew(t, r); t.Failed() {
				t.Fatalf("behind %v", x.l)
			}
		}
		// What was refused leaves no trace in what comes then.
		checkJoin(t, r, good, 2)
		if got := r.Ops(); !slices.Equal(got, slices.Concat(few(), good)) {
			t.Errorf("%v", got)
		}
	}
}

// P72: what new ones are about may be new as well, if it is of an earlier stamp, wherever it stands in the list.
func TestJoinNewOnNew(t *testing.T) {
	l := []api.Op{
		makeNode(11, 0, 6, 4, "n"),         // node 44
		makeNode(11, 1, 6, 44, "o"),        // node 45
		insert(12, 2, 5, 45, 0, "x"),       // letter 50
		insert(13, 0, 7, 45, 50, "y"),      // letter 52
		remove(14, 3, 2, 45, 50),           //
		set(14, 1, 7, 44, "m", "v"),        //
		move(15, 0, 8, 45, api.Trash, "p"), //
	}
	want := fewState[:len("4 in 0 a\n5 in 4 b.c\n38 in 5 in-b\n42 in 38 in-in\n")] + "44 in 4 n\n45 in 1 p\n4 text y !\n5 text z\n45 text y\n4 mark m v w\n5 mark a 1\n44 mark m v"
	var x row
	for range 50 {
		x.shuffle(l)
		r := joined(t, 1, few()...)
		checkJoin(t, r, l, len(l))
		if got := r.State(); got != want {
			t.Fatalf("%v: %q", l, got)
		}
	}
}

// many marks of node 4, one behind the other by replica 0, from number 2 on.
func many(n int) []api.Op {
	l := []api.Op{makeNode(1, 0, 1, 0, "n")}
	for i := 2; i <= n; i++ {
		l = append(l, set(i, 0, i, 4, "m", "v"))
	}
	return l
}

// P72: up to MaxOps, at once or one by one, whoever made them; not one more; what is known may come again.
func TestJoinFull(t *testing.T) {
	all := many(api.MaxOps)
	one := set(5, 1, 1, 4, "n", "w")
	r := joined(t, 0, all...)
	checkRefused(t, r, []api.Op{one}, bare, api.ErrFull)
	checkRefused(t, r, append(slices.Clone(all), one), bare, api.ErrFull)
	checkJoin(t, r, all, 0)
	if n := len(r.Ops()); n != api.MaxOps || r.Text(4) != "" || r.Time() != api.MaxOps || r.State() != "4 in 0 n\n4 mark m v" {
		t.Errorf("%d, time %d, %q", n, r.Time(), r.State())
	}
	r = joined(t, 0, all[:api.MaxOps-1]...)
	checkRefused(t, r, []api.Op{one, all[api.MaxOps-1]}, bare, api.ErrFull)
	checkNext(t, r, api.MaxOps, api.MaxOps)
	checkJoin(t, r, []api.Op{one}, 1)
	checkRefused(t, r, all[api.MaxOps-1:], bare, api.ErrFull)
	begin := begun(t, 2)
	checkRefused(t, begin, append(slices.Clone(all), one), bare, api.ErrFull)
	if len(begin.Ops()) != 0 || begin.Time() != 0 || begin.State() != "" {
		t.Error("something was joined")
	}
	checkJoin(t, begin, append(slices.Clone(all), all...), api.MaxOps)
}

// P72: room is asked for behind all else.
func TestFullIsToldLast(t *testing.T) {
	all := many(api.MaxOps)
	r := joined(t, 3, all...)
	checkRefused(t, r, []api.Op{makeNode(7, 1, 1, 0, "n"), {}}, 1, api.ErrBound)
	checkRefused(t, r, []api.Op{set(1, 0, 1, 2, "n", "w")}, 0, api.ErrExist)
	checkRefused(t, r, []api.Op{makeNode(7, 1, 2, 0, "n")}, bare, api.ErrGap)
	checkRefused(t, r, []api.Op{makeNode(7, 1, 1, 0, "n"), makeNode(7, 1, 2, 0, "n")}, bare, api.ErrShape)
	checkRefused(t, r, []api.Op{makeNode(7, 1, 1, 8, "n")}, bare, api.ErrNone)
	checkRefused(t, r, []api.Op{makeNode(7, 1, 1, 4, "n")}, bare, api.ErrFull)
}

// P72: the ends of stamps and numbers.
func TestJoinEnds(t *testing.T) {
	r := begun(t, 0)
	first, last := makeNode(1, 0, 1, 0, "a"), makeNode(api.MaxTime, 3, 1, 4, "z")
	checkJoin(t, r, []api.Op{last, first}, 2)
	checkJoin(t, r, []api.Op{insert(api.MaxTime, 2, 1, 4, 0, "x"), set(1, 1, 1, 4, "m", "v")}, 2)
	checkRefused(t, r, []api.Op{set(api.MaxTime, 3, 2, 4, "m", "v")}, bare, api.ErrShape)
	if s := r.State(); s != "4 in 0 a\n4294967299 in 4 z\n4 text x\n4 mark m v" {
		t.Errorf("%q", s)
	}
}

// P1: a long list that says the same again and again ends, too.
func TestJoinLongList(t *testing.T) {
	var l []api.Op
	for range 2000 {
		l = append(l, few()...)
	}
	r := begun(t, 1)
	checkJoin(t, r, l, len(few()))
	checkFew(t, r)
	checkRefused(t, r, append(l, api.Op{}), len(l), api.ErrBound)
}
