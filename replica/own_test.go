package replica_test

import (
	"math"
	"strings"
	"testing"

	"concordat/api"
	"concordat/op"
	"concordat/replica"
)

// asked: what one of a replica's own operations was asked for, and what is answered.
type asked struct {
	what string
	do   func(r *replica.Replica) (api.Op, error)
	o    api.Op
	err  error
}

func asksMake(into int, name string) func(*replica.Replica) (api.Op, error) {
	return func(r *replica.Replica) (api.Op, error) { return r.Make(into, name) }
}

func asksMove(node, into int, name string) func(*replica.Replica) (api.Op, error) {
	return func(r *replica.Replica) (api.Op, error) { return r.Move(node, into, name) }
}

func asksWrite(node, at int, letter byte) func(*replica.Replica) (api.Op, error) {
	return func(r *replica.Replica) (api.Op, error) { return r.Write(node, at, letter) }
}

func asksErase(node, at int) func(*replica.Replica) (api.Op, error) {
	return func(r *replica.Replica) (api.Op, error) { return r.Erase(node, at) }
}

func asksMark(node int, name, value string) func(*replica.Replica) (api.Op, error) {
	return func(r *replica.Replica) (api.Op, error) { return r.Mark(node, name, value) }
}

func checkAsked(t *testing.T, r *replica.Replica, l []asked) {
	t.Helper()
	for _, x := range l {
		if o, err := x.do(r); o != x.o || err != x.err {
			t.Errorf("%s: %v, %v, not %v, %v", x.what, o, err, x.o, x.err)
		}
	}
}

// P71: what replica 1 would make of the few: nothing changes by it, and Join takes it.
func TestOwnOperations(t *testing.T) {
	l := []asked{
		{"make in Root", asksMake(api.Root, "n"), move(11, 1, 6, 45, 0, "n"), nil},
		{"make in Trash", asksMake(api.Trash, "-.09az"), move(11, 1, 6, 45, 1, "-.09az"), nil},
		{"make in a node", asksMake(42, strings.Repeat("n", api.MaxName)), move(11, 1, 6, 45, 42, strings.Repeat("n", api.MaxName)), nil},
		{"move to Root", asksMove(42, api.Root, "n"), move(11, 1, 6, 42, 0, "n"), nil},
		{"move to Trash", asksMove(4, api.Trash, "n"), move(11, 1, 6, 4, 1, "n"), nil},
		{"move to where it lies", asksMove(5, 4, "b.c"), move(11, 1, 6, 5, 4, "b.c"), nil},
		{"move up", asksMove(42, 5, "n"), move(11, 1, 6, 42, 5, "n"), nil},
		{"write at the beginning", asksWrite(4, 0, 'A'), insert(11, 1, 6, 4, 0, "A"), nil},
		{"write behind the first", asksWrite(4, 1, ' '), insert(11, 1, 6, 4, 12, " "), nil},
		{"write behind the second", asksWrite(4, 2, '~'), insert(11, 1, 6, 4, 34, "~"), nil},
		{"write at the end", asksWrite(4, 3, 'D'), insert(11, 1, 6, 4, 35, "D"), nil},
		{"write into an empty text", asksWrite(38, 0, 'E'), insert(11, 1, 6, 38, 0, "E"), nil},
		{"erase the first", asksErase(4, 0), remove(11, 1, 6, 4, 12), nil},
		{"erase the last", asksErase(4, 2), remove(11, 1, 6, 4, 35), nil},
		{"erase the only one", asksErase(5, 0), remove(11, 1, 6, 5, 9), nil},
		{"mark", asksMark(4, "m", "v"), set(11, 1, 6, 4, "m", "v"), nil},
		{"mark by nothing", asksMark(42, "-", ""), set(11, 1, 6, 42, "-", ""), nil},
		{"mark by a long one", asksMark(5, "m", strings.Repeat("~", api.MaxName)), set(11, 1, 6, 5, "m", strings.Repeat("~", api.MaxName)), nil},
	}
	r := joined(t, 1, few()...)
	checkAsked(t, r, l)
	checkFew(t, r)
	for _, x := range l {
		if err := op.Check(x.o); err != nil {
			t.Fatalf("%s: %v", x.what, err)
		}
		checkJoin(t, joined(t, 1, few()...), []api.Op{x.o}, 1)
		checkJoin(t, joined(t, 2, few()...), []api.Op{x.o}, 1)
	}
}

// P71: a letter becomes number at of those that are seen, also where deleted ones stand there.
func TestWriteAtItsNumber(t *testing.T) {
	for _, gone := range [][]int{nil, {0}, {1}, {4}, {0, 0}, {1, 1}, {3, 3}, {0, 1, 2}, {0, 0, 0, 0, 0}, {2, 1}} {
		r := joined(t, 3, makeNode(1, 3, 1, 0, "n"))
		want := "abcde"
		for i, c := range []byte(want) {
			checkDone(t, r, asksWrite(7, i, c))
		}
		for _, i := range gone {
			checkDone(t, r, asksErase(7, i))
			want = want[:i] + want[i+1:]
		}
		for i := range len(want) + 1 {
			far := joined(t, 0, r.Ops()...)
			checkDone(t, far, asksWrite(7, i, 'X'))
			if got := far.Text(7); got != want[:i]+"X"+want[i:] {
				t.Errorf("%v gone, X at %d: %q", gone, i, got)
			}
		}
		for _, i := range []int{-1, len(want) + 1} {
			if _, err := r.Write(7, i, 'X'); err != api.ErrNone {
				t.Errorf("%v gone, X at %d: %v", gone, i, err)
			}
		}
		if _, err := r.Erase(7, len(want)); err != api.ErrNone {
			t.Errorf("%v gone, the one behind the last: %v", gone, err)
		}
	}
}

// checkDone: it is made, and joined.
func checkDone(t *testing.T, r *replica.Replica, do func(*replica.Replica) (api.Op, error)) {
	t.Helper()
	o, err := do(r)
	if err != nil {
		t.Fatal(err)
	}
	checkJoin(t, r, []api.Op{o}, 1)
}

// P71: its stamp is later than all that it knows, its number one more than those of its own.
func TestNextStampAndNumber(t *testing.T) {
	r := begun(t, 2)
	checkNext(t, r, 1, 1)
	checkNext(t, r, 1, 1)
	checkJoin(t, r, []api.Op{makeNode(9, 0, 1, 0, "a")}, 1)
	checkNext(t, r, 10, 1)
	checkJoin(t, r, []api.Op{makeNode(3, 2, 1, 0, "a")}, 1)
	checkNext(t, r, 10, 2)
	checkDone(t, r, asksMake(api.Root, "b"))
	checkNext(t, r, 11, 3)
	checkJoin(t, r, []api.Op{makeNode(11, 3, 1, 0, "a"), makeNode(12, 3, 2, 0, "a")}, 2)
	checkNext(t, r, 13, 3)
}

// refused of the few: nothing is known of such nodes and letters; then names and values; then cycles.
func refusedOfFew() []asked {
	l := []asked{
		{"make by no name", asksMake(0, ""), api.Op{}, api.ErrName},
		{"make by a great letter", asksMake(4, "N"), api.Op{}, api.ErrName},
		{"make by a long name", asksMake(1, strings.Repeat("n", api.MaxName+1)), api.Op{}, api.ErrName},
		{"make by a path", asksMake(4, "a/b"), api.Op{}, api.ErrName},
		{"move by no name", asksMove(4, 0, ""), api.Op{}, api.ErrName},
		{"move by a wrong name", asksMove(42, 0, "\xff"), api.Op{}, api.ErrName},
		{"move into itself", asksMove(4, 4, "n"), api.Op{}, api.ErrCycle},
		{"move into its child", asksMove(4, 5, "n"), api.Op{}, api.ErrCycle},
		{"move deep into itself", asksMove(4, 42, "n"), api.Op{}, api.ErrCycle},
		{"move into its child's child", asksMove(5, 42, "n"), api.Op{}, api.ErrCycle},
		{"a name is ahead of a cycle", asksMove(4, 4, "N"), api.Op{}, api.ErrName},
		{"a name is ahead of a deep cycle", asksMove(4, 42, ""), api.Op{}, api.ErrName},
		{"write far behind the end", asksWrite(4, 4, 'x'), api.Op{}, api.ErrNone},
		{"write ahead of the beginning", asksWrite(4, -1, 'x'), api.Op{}, api.ErrNone},
		{"write at the least number", asksWrite(4, math.MinInt, 'x'), api.Op{}, api.ErrNone},
		{"write at the least but one", asksWrite(4, math.MinInt+1, 'x'), api.Op{}, api.ErrNone},
		{"write at the greatest number", asksWrite(4, math.MaxInt, 'x'), api.Op{}, api.ErrNone},
		{"write behind nothing", asksWrite(38, 1, 'x'), api.Op{}, api.ErrNone},
		{"no such place is ahead of the letter", asksWrite(4, 4, 0), api.Op{}, api.ErrNone},
		{"write what cannot be seen", asksWrite(4, 0, 31), api.Op{}, api.ErrShape},
		{"write nothing", asksWrite(4, 1, 0), api.Op{}, api.ErrShape},
		{"write what cannot be seen, either", asksWrite(4, 3, 127), api.Op{}, api.ErrShape},
		{"write a byte of more", asksWrite(4, 3, 200), api.Op{}, api.ErrShape},
		{"erase behind the end", asksErase(4, 3), api.Op{}, api.ErrNone},
		{"erase ahead of the beginning", asksErase(4, -1), api.Op{}, api.ErrNone},
		{"erase the least number", asksErase(4, math.MinInt), api.Op{}, api.ErrNone},
		{"erase the greatest number", asksErase(4, math.MaxInt), api.Op{}, api.ErrNone},
		{"erase of an empty text", asksErase(42, 0), api.Op{}, api.ErrNone},
		{"mark by no name", asksMark(4, "", "v"), api.Op{}, api.ErrName},
		{"mark by a wrong name", asksMark(5, "a b", "v"), api.Op{}, api.ErrName},
		{"mark by a long name", asksMark(5, strings.Repeat("m", api.MaxName+1), ""), api.Op{}, api.ErrName},
		{"mark with a long value", asksMark(4, "m", strings.Repeat("v", api.MaxName+1)), api.Op{}, api.ErrShape},
		{"mark with a wrong value", asksMark(4, "m", "\n"), api.Op{}, api.ErrShape},
		{"mark: name ahead of value", asksMark(4, "M", "\n"), api.Op{}, api.ErrName},
	}
	// Letters, Root and Trash as what is moved, and what nobody made.
	for _, node := range []int{math.MinInt, -4, -1, api.Root, api.Trash, 2, 3, 6, 8, 9, 12, 16, 34, 35, 44, 45, api.MaxTime * 4, math.MaxInt} {
		l = append(l,
			asked{"move of no node", asksMove(node, 4, "n"), api.Op{}, api.ErrNone},
			asked{"move of no node into itself, by no name", asksMove(node, node, ""), api.Op{}, api.ErrNone},
			asked{"write into no node", asksWrite(node, 0, 'x'), api.Op{}, api.ErrNone},
			asked{"write nothing into no node", asksWrite(node, 1, 0), api.Op{}, api.ErrNone},
			asked{"erase of no node", asksErase(node, 0), api.Op{}, api.ErrNone},
			asked{"mark of no node", asksMark(node, "m", "v"), api.Op{}, api.ErrNone},
			asked{"mark of no node by no name", asksMark(node, "", "\n"), api.Op{}, api.ErrNone})
		if node != api.Root && node != api.Trash {
			l = append(l,
				asked{"make in no node", asksMake(node, "n"), api.Op{}, api.ErrNone},
				asked{"make in no node by no name", asksMake(node, ""), api.Op{}, api.ErrNone},
				asked{"move into no node", asksMove(4, node, "n"), api.Op{}, api.ErrNone})
		}
	}
	return l
}

// P71, P3: errors are bare, with them there is no operation, and nothing changes.
func TestOwnRefused(t *testing.T) {
	for by := range api.Replicas {
		r := joined(t, by, few()...)
		checkAsked(t, r, refusedOfFew())
		checkFew(t, r)
	}
}

// P71: a cycle is one of the tree as it is now: a node that went away is no longer in the way.
func TestCycleOfNow(t *testing.T) {
	r := joined(t, 0, few()...)
	checkDone(t, r, asksMove(5, api.Trash, "gone"))
	checkDone(t, r, asksMove(4, 42, "n"))
	checkAsked(t, r, []asked{{"move into its new child", asksMove(42, 4, "n"), api.Op{}, api.ErrCycle}, {"move above it", asksMove(5, 4, "n"), api.Op{}, api.ErrCycle}})
}

// fullRows: of each kind what is refused, where there is no room: what is not there is told ahead of it, and names, values and cycles behind it.
func fullRows(node int) []asked {
	return []asked{
		{"make", asksMake(0, "n"), api.Op{}, api.ErrFull},
		{"make by no name", asksMake(node, ""), api.Op{}, api.ErrFull},
		{"make in none", asksMake(2, "n"), api.Op{}, api.ErrNone},
		{"move", asksMove(node, 1, "n"), api.Op{}, api.ErrFull},
		{"move by no name", asksMove(node, 0, ""), api.Op{}, api.ErrFull},
		{"move into itself", asksMove(node, node, "n"), api.Op{}, api.ErrFull},
		{"move of none", asksMove(2, 0, "n"), api.Op{}, api.ErrNone},
		{"write", asksWrite(node, 1, 'x'), api.Op{}, api.ErrFull},
		{"write nothing", asksWrite(node, 0, 0), api.Op{}, api.ErrFull},
		{"write nowhere", asksWrite(node, 2, 'x'), api.Op{}, api.ErrNone},
		{"erase", asksErase(node, 0), api.Op{}, api.ErrFull},
		{"erase none", asksErase(node, 1), api.Op{}, api.ErrNone},
		{"mark", asksMark(node, "m", "v"), api.Op{}, api.ErrFull},
		{"mark by no name", asksMark(node, "", "\n"), api.Op{}, api.ErrFull},
		{"mark of none", asksMark(api.Root, "m", "v"), api.Op{}, api.ErrNone},
	}
}

// P71: with MaxOps known, whoever made them, nothing is made any more.
func TestOwnFull(t *testing.T) {
	l := []api.Op{makeNode(1, 0, 1, 0, "n"), insert(2, 0, 2, 4, 0, "a")}
	for i := 2; i < api.MaxOps-1; i++ {
		l = append(l, set(1+i, i%api.Replicas, 0, 4, "m", "v"))
	}
	r := joined(t, 3, numbered(l)...)
	checkDone(t, r, asksMark(4, "m", "last"))
	checkAsked(t, r, fullRows(4))
	if n := len(r.Ops()); n != api.MaxOps {
		t.Errorf("%d are known", n)
	}
}

// numbered anew: each replica's from 1 on, as they stand.
func numbered(l []api.Op) []api.Op {
	var n [api.Replicas]int
	for i, o := range l {
		n[o.S.By]++
		l[i].N = n[o.S.By]
	}
	return l
}

// P71: at MaxTime there is no later stamp, whoever told it; one ahead of it there is one.
func TestOwnTimeIsUp(t *testing.T) {
	l := []api.Op{makeNode(1, 0, 1, 0, "n"), insert(2, 0, 2, 4, 0, "a"), set(api.MaxTime-1, 0, 3, 4, "m", "v")}
	for by := range api.Replicas {
		r := joined(t, by, l...)
		o, err := r.Mark(4, "m", "w")
		if o != set(api.MaxTime, by, []int{4, 1, 1, 1}[by], 4, "m", "w") || err != nil {
			t.Fatal(o, err)
		}
		checkJoin(t, r, []api.Op{o}, 1)
		checkAsked(t, r, fullRows(4))
		far := joined(t, 3-by, l...)
		checkJoin(t, far, []api.Op{o}, 1)
		checkAsked(t, far, fullRows(4))
	}
}
