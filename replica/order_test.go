package replica_test

import (
	"cmp"
	"errors"
	"fmt"
	"slices"
	"strings"
	"testing"

	"concordat/api"
	"concordat/op"
	"concordat/replica"
	"concordat/tree"
	"concordat/vector"
)

// stateOf is what the document says that operations make, one behind the other by stamp, in lists.
func stateOf(l []api.Op) string {
	l = op.Sort(l)
	var lines []string
	for _, p := range placesOf(l) {
		lines = append(lines, fmt.Sprintf("%d in %d %s", p.Node, p.In, p.Name))
	}
	for _, node := range nodesOf(l) {
		if s := textOf(l, node); s != "" {
			lines = append(lines, fmt.Sprintf("%d text %s", node, s))
		}
	}
	return strings.Join(append(lines, marksOf(l)...), "\n")
}

// nodesOf these that are known, rising: by stamp they are.
func nodesOf(l []api.Op) []int {
	var nodes []int
	for _, o := range l {
		if o.Kind == api.Move && o.Node == op.ID(o) {
			nodes = append(nodes, o.Node)
		}
	}
	return nodes
}

func placesOf(l []api.Op) []tree.Place {
	var places []tree.Place
	in := func(node int) int {
		for _, p := range places {
			if p.Node == node {
				return p.In
			}
		}
		return -1
	}
	for _, o := range l {
		up := o.Other
		for up != -1 && up != o.Node {
			up = in(up)
		}
		if o.Kind != api.Move || up == o.Node {
			continue
		}
		places = slices.DeleteFunc(places, func(p tree.Place) bool { return p.Node == o.Node })
		places = append(places, tree.Place{Node: o.Node, In: o.Other, Name: o.Name})
	}
	slices.SortFunc(places, func(a, b tree.Place) int { return cmp.Compare(a.Node, b.Node) })
	return places
}

// textOf a node. By stamp each letter is the latest one: it stands right behind the one that it goes behind.
func textOf(l []api.Op, node int) string {
	ids := []int{0}
	chars := map[int]string{}
	for _, o := range l {
		switch {
		case o.Node != node:
		case o.Kind == api.Insert:
			ids = slices.Insert(ids, slices.Index(ids, o.Other)+1, op.ID(o))
			chars[op.ID(o)] = o.Value
		case o.Kind == api.Delete:
			chars[o.Other] = ""
		}
	}
	text := ""
	for _, id := range ids {
		text += chars[id]
	}
	return text
}

// marksOf these, as lines: of each mark the last one.
func marksOf(l []api.Op) []string {
	var last []api.Op
	for _, o := range l {
		if o.Kind == api.Set {
			last = slices.DeleteFunc(last, func(x api.Op) bool { return x.Node == o.Node && x.Name == o.Name })
			last = append(last, o)
		}
	}
	slices.SortFunc(last, func(a, b api.Op) int { return cmp.Or(cmp.Compare(a.Node, b.Node), cmp.Compare(a.Name, b.Name)) })
	var lines []string
	for _, o := range last {
		if o.Value != "" {
			lines = append(lines, fmt.Sprintf("%d mark %s %s", o.Node, o.Name, o.Value))
		}
	}
	return lines
}

// checkKnows: all that a replica tells is what these operations make.
func checkKnows(t *testing.T, r *replica.Replica, l []api.Op) {
	t.Helper()
	var v vector.Vector
	time := 0
	for _, o := range l {
		v[o.S.By]++
		time = max(time, o.S.Time)
	}
	if got := r.Ops(); !slices.Equal(got, op.Sort(l)) {
		t.Fatalf("operations %v, not %v", got, l)
	}
	if r.Vector() != v || r.Time() != time {
		t.Fatalf("%v: vector %v, time %d", l, r.Vector(), r.Time())
	}
	if got, want := r.State(), stateOf(l); got != want {
		t.Fatalf("%v: state %q, not %q", l, got, want)
	}
}

// wouldJoin is what P72 says, word by word: which are known then, how many were new, or the error.
func wouldJoin(known, l []api.Op) ([]api.Op, int, error) {
	all := slices.Clone(known)
	for i, o := range l {
		if err := op.Check(o); err != nil {
			return known, 0, &api.Fault{At: i, Err: err}
		}
		if slices.ContainsFunc(all, func(x api.Op) bool { return x.S.By == o.S.By && x.N == o.N && x != o }) {
			return known, 0, &api.Fault{At: i, Err: api.ErrExist}
		}
		if !slices.Contains(all, o) {
			all = append(all, o)
		}
	}
	switch {
	case hasGap(all):
		return known, 0, api.ErrGap
	case falls(all):
		return known, 0, api.ErrShape
	case lacksGround(all):
		return known, 0, api.ErrNone
	case len(all) > api.MaxOps:
		return known, 0, api.ErrFull
	}
	return all, len(all) - len(known), nil
}

// hasGap: is the number ahead of one missing?
func hasGap(all []api.Op) bool {
	return slices.ContainsFunc(all, func(o api.Op) bool {
		return o.N > 1 && !slices.ContainsFunc(all, func(x api.Op) bool { return x.S.By == o.S.By && x.N == o.N-1 })
	})
}

// falls: has one a greater number, and no greater stamp, than another one of its replica's?
func falls(all []api.Op) bool {
	return slices.ContainsFunc(all, func(o api.Op) bool {
		return slices.ContainsFunc(all, func(x api.Op) bool { return x.S.By == o.S.By && x.N < o.N && x.S.Time >= o.S.Time })
	})
}

// lacksGround: is one about something that none ahead of it makes?
func lacksGround(all []api.Op) bool {
	all = op.Sort(all)
	for i, o := range all {
		isNode := func(id int) bool { return slices.Contains(nodesOf(all[:i]), id) }
		isLetter := slices.ContainsFunc(all[:i], func(x api.Op) bool {
			return x.Kind == api.Insert && x.Node == o.Node && op.ID(x) == o.Other
		})
		switch {
		case !isNode(o.Node) && (o.Kind != api.Move || o.Node != op.ID(o)),
			o.Kind == api.Move && o.Other != api.Root && o.Other != api.Trash && !isNode(o.Other),
			o.Kind == api.Insert && o.Other != 0 && !isLetter,
			o.Kind == api.Delete && !isLetter:
			return true
		}
	}
	return false
}

// checkJoinsAs: Join answers as the words say. It tells what is known then.
func checkJoinsAs(t *testing.T, r *replica.Replica, known, l []api.Op) []api.Op {
	t.Helper()
	all, want, err := wouldJoin(known, l)
	n, got := r.Join(l)
	var f, g *api.Fault
	same := got == err
	if errors.As(err, &f) {
		same = errors.As(got, &g) && *f == *g
	}
	if n != want || !same {
		t.Fatalf("%v: Join(%v): %d, %v, not %d, %v", known, l, n, got, want, err)
	}
	checkKnows(t, r, all)
	return all
}

// row of numbers that look like random ones, and are always the same.
type row uint32

func (r *row) next(n int) int {
	*r = *r*1664525 + 1013904223
	return int(*r>>8) % n
}

// shuffle a list in its place.
func (r *row) shuffle(l []api.Op) {
	for i := range l {
		k := i + r.next(len(l)-i)
		l[i], l[k] = l[k], l[i]
	}
}

// some operations about few nodes and letters, right ones and wrong ones.
func some() []api.Op {
	l := []api.Op{{}, makeNode(1, 0, 1, 0, "a"), makeNode(1, 0, 1, 0, "b"), makeNode(1, 1, 1, 4, "c"), makeNode(2, 1, 1, 0, "c"), makeNode(2, 0, 2, 5, "d")}
	for _, n := range []int{2, 3} {
		l = append(l, insert(n, 0, n, 4, 0, "x"), insert(3, 0, n, 4, 8, "y"), remove(3, 0, n, 4, 9), move(3, 0, n, 4, 5, "in"))
	}
	for _, n := range []int{1, 2} {
		l = append(l, insert(2, 1, n, 4, 0, "z"), set(n+1, 1, n, 4, "m", "v"), remove(3, 1, n, 4, 8), move(4, 1, n, 5, 8, "out"))
	}
	return append(l, makeNode(3, 0, 3, 4, "N"), set(4, 0, 3, 5, "m", "w"))
}

// P72: lists of up to three of them, to a new replica, and to one that knows something.
func TestSmallJoins(t *testing.T) {
	l := some()
	for _, known := range [][]api.Op{nil, {l[1]}, {l[1], l[3], l[6]}} {
		for i := range l {
			for j := range l {
				for k := range l {
					r := joined(t, 2, known...)
					checkJoinsAs(t, r, known, []api.Op{l[i], l[j], l[k]})
				}
			}
		}
	}
}

// P72: rows of Joins of one or two of them, whether they are taken or not.
func TestSmallRows(t *testing.T) {
	l := some()[1:]
	var x row
	for range 20000 {
		var known []api.Op
		r := begun(t, x.next(api.Replicas))
		for range 2 + x.next(6) {
			known = checkJoinsAs(t, r, known, []api.Op{l[x.next(len(l))], l[x.next(len(l))]}[:1+x.next(2)])
		}
	}
}

// orders of the numbers 0 to n - 1.
func orders(n int) [][]int {
	if n == 0 {
		return [][]int{{}}
	}
	var l [][]int
	for _, short := range orders(n - 1) {
		for i := range n {
			l = append(l, slices.Insert(slices.Clone(short), i, n-1))
		}
	}
	return l
}

// P74: rows of right operations in each order in which they may come, one by one; those that may not come yet come again later.
func TestSmallRowsInAnyOrder(t *testing.T) {
	rows := [][]api.Op{
		{makeNode(1, 0, 1, 0, "a"), makeNode(1, 1, 1, 0, "b"), makeNode(1, 2, 1, 0, "c"), move(2, 0, 2, 4, 5, "d"), move(2, 1, 2, 5, 6, "e"), move(2, 2, 2, 6, 4, "f")},
		{makeNode(1, 0, 1, 0, "a"), insert(2, 0, 2, 4, 0, "x"), insert(2, 1, 1, 4, 0, "y"), insert(3, 2, 1, 4, 8, "z"), remove(3, 3, 1, 4, 8), insert(4, 0, 3, 4, 8, "w")},
		{makeNode(1, 0, 1, 0, "a"), set(2, 0, 2, 4, "m", "x"), set(2, 1, 1, 4, "m", "y"), set(2, 2, 1, 4, "n", "z"), set(3, 1, 2, 4, "m", ""), set(3, 2, 2, 4, "n", "w")},
		{makeNode(1, 0, 1, 0, "a"), makeNode(2, 1, 1, 4, "b"), insert(3, 2, 1, 9, 0, "x"), move(3, 0, 2, 9, 1, "t"), move(4, 1, 2, 4, 9, "c"), set(4, 2, 2, 9, "m", "y")},
	}
	for _, l := range rows {
		for _, order := range orders(len(l)) {
			var known []api.Op
			r := begun(t, 3)
			for len(known) < len(l) {
				for _, k := range order {
					known = checkJoinsAs(t, r, known, l[k:k+1])
				}
			}
		}
	}
}

// acts: a replica does something by itself, which may be refused.
func acts(t *testing.T, r *replica.Replica, x *row) {
	t.Helper()
	nodes := []int{api.Root, api.Trash}
	for _, p := range r.Tree().Places() {
		nodes = append(nodes, p.Node)
	}
	node, into := nodes[x.next(len(nodes))], nodes[x.next(len(nodes))]
	var o api.Op
	var err error
	switch x.next(7) {
	case 0:
		o, err = r.Make(into, "abc"[x.next(3):])
	case 1, 2:
		o, err = r.Move(node, into, "abc"[x.next(3):])
	case 3, 4:
		o, err = r.Write(node, x.next(4), byte('a'+x.next(26)))
	case 5:
		o, err = r.Erase(node, x.next(3))
	case 6:
		o, err = r.Mark(node, "mn"[x.next(2):], "vw"[x.next(3):])
	}
	if err == nil {
		checkJoin(t, r, []api.Op{o}, 1)
	}
}

// P74: replicas that go on by themselves, and meet now and then: who knows the same has the same state, which is what the document says, also with those who come to know all of it at once, or piece by piece.
func TestReplicasThatMeet(t *testing.T) {
	for seed := range 150 {
		x := row(seed)
		var all [api.Replicas]*replica.Replica
		for by := range all {
			all[by] = begun(t, by)
		}
		for range 20 + x.next(100) {
			a, b := all[x.next(api.Replicas)], all[x.next(api.Replicas)]
			acts(t, a, &x)
			if x.next(6) == 0 {
				checkJoin(t, b, a.Diff(b.Vector()), len(a.Diff(b.Vector())))
				checkKnows(t, b, b.Ops())
			}
		}
		for range 2 {
			for by := range all {
				next := all[(by+1)%api.Replicas]
				checkJoin(t, next, all[by].Ops(), vector.Lacks(next.Vector(), all[by].Vector()))
			}
		}
		l := all[3].Ops()
		for by := range all {
			checkJoin(t, all[by], l, len(l)-len(all[by].Ops()))
			checkKnows(t, all[by], l)
		}
		checkPieces(t, l, &x)
	}
}

// checkPieces: a new replica that joins a list by pieces, each replica's operations in their order, knows it all at the end.
func checkPieces(t *testing.T, l []api.Op, x *row) {
	t.Helper()
	r := begun(t, x.next(api.Replicas))
	for len(r.Ops()) < len(l) {
		upTo := r.Vector()
		upTo[x.next(api.Replicas)] += 1 + x.next(12)
		var piece []api.Op
		for _, o := range l {
			if o.N <= upTo[o.S.By] {
				piece = append(piece, o)
			}
		}
		x.shuffle(piece)
		known := r.Ops()
		all := checkJoinsAs(t, r, known, piece)
		if len(all) == len(known) {
			checkJoin(t, r, l[:len(known)+1], vector.Lacks(r.Vector(), vectorOf(l[:len(known)+1])))
		}
	}
	checkKnows(t, r, l)
}

func vectorOf(l []api.Op) vector.Vector {
	var v vector.Vector
	for _, o := range l {
		v[o.S.By]++
	}
	return v
}

// Each seven bytes are an operation, which may be wrong; a byte says how many of them are joined at once.
func FuzzAnyJoins(f *testing.F) {
	f.Add([]byte{0, 1, 0, 1, 0, 0, 4, 0, 2, 0, 2, 1, 4, 0, 5})
	f.Add([]byte{1, 1, 0, 1, 0, 4, 0, 0, 2, 1, 1, 1, 4, 0, 9, 0, 3, 1, 2, 2, 4, 9, 9})
	f.Fuzz(func(t *testing.T, b []byte) {
		r := begun(t, 1)
		var known []api.Op
		for len(known) < 40 && len(b) > 7 {
			n := 1 + int(b[0]%4)
			b = b[1:]
			var l []api.Op
			for ; n > 0 && len(b) >= 7; n-- {
				l = append(l, fuzzed(b))
				b = b[7:]
			}
			known = checkJoinsAs(t, r, known, l)
		}
	})
}

func fuzzed(b []byte) api.Op {
	o := api.Op{S: at(int(b[0])%20, int(b[1])%5), N: int(b[2]) % 9, Kind: []byte{api.Move, api.Insert, api.Delete, api.Set, 'x'}[b[3]%5], Node: int(b[4]) % 90, Other: int(b[5])%90 - 1}
	if b[4] > 200 {
		o.Node = op.ID(o)
	}
	switch o.Kind {
	case api.Move:
		o.Name = []string{"a", "b", "c.", ""}[b[6]%4]
	case api.Insert:
		o.Value = string([]byte{b[6]})
	case api.Set:
		o.Other, o.Name, o.Value = 0, []string{"m", "n"}[b[6]%2], []string{"", "v", "w"}[b[6]%3]
	}
	return o
}
