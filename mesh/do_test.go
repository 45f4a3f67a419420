package mesh_test

import (
	"testing"

	"concordat/api"
	"concordat/mesh"
	"concordat/replica"
	"concordat/vector"
)

// P101: by Kind; what is made is told, and joined.
func TestDo(t *testing.T) {
	m := begun(t, 3)
	for _, c := range []struct {
		asked, made api.Op
		state       string
	}{
		{makeNode(api.Root, "a"), api.Op{S: api.Stamp{Time: 1, By: 2}, N: 1, Kind: api.Move, Node: 6, Name: "a"}, "6 in 0 a"},
		{makeNode(6, "b"), api.Op{S: api.Stamp{Time: 2, By: 2}, N: 2, Kind: api.Move, Node: 10, Other: 6, Name: "b"}, "6 in 0 a\n10 in 6 b"},
		{makeNode(api.Trash, "b"), api.Op{S: api.Stamp{Time: 3, By: 2}, N: 3, Kind: api.Move, Node: 14, Other: api.Trash, Name: "b"}, "6 in 0 a\n10 in 6 b\n14 in 1 b"},
		{move(10, api.Root, "c"), api.Op{S: api.Stamp{Time: 4, By: 2}, N: 4, Kind: api.Move, Node: 10, Name: "c"}, "6 in 0 a\n10 in 0 c\n14 in 1 b"},
		{move(14, 10, "d"), api.Op{S: api.Stamp{Time: 5, By: 2}, N: 5, Kind: api.Move, Node: 14, Other: 10, Name: "d"}, "6 in 0 a\n10 in 0 c\n14 in 10 d"},
		{write(6, 0, "x"), api.Op{S: api.Stamp{Time: 6, By: 2}, N: 6, Kind: api.Insert, Node: 6, Value: "x"}, "6 in 0 a\n10 in 0 c\n14 in 10 d\n6 text x"},
		{write(6, 1, "yz"), api.Op{S: api.Stamp{Time: 7, By: 2}, N: 7, Kind: api.Insert, Node: 6, Other: 26, Value: "y"}, "6 in 0 a\n10 in 0 c\n14 in 10 d\n6 text xy"},
		{erase(6, 0), api.Op{S: api.Stamp{Time: 8, By: 2}, N: 8, Kind: api.Delete, Node: 6, Other: 26}, "6 in 0 a\n10 in 0 c\n14 in 10 d\n6 text y"},
		{mark(6, "m", "v w"), api.Op{S: api.Stamp{Time: 9, By: 2}, N: 9, Kind: api.Set, Node: 6, Name: "m", Value: "v w"}, "6 in 0 a\n10 in 0 c\n14 in 10 d\n6 text y\n6 mark m v w"},
		{mark(6, "m", ""), api.Op{S: api.Stamp{Time: 10, By: 2}, N: 10, Kind: api.Set, Node: 6, Name: "m"}, "6 in 0 a\n10 in 0 c\n14 in 10 d\n6 text y"},
	} {
		if made := do(t, m, 2, c.asked); made != c.made {
			t.Errorf("Do(%v): %v, not %v", c.asked, made, c.made)
		}
		holdState(t, m, 2, c.state)
	}
	holdState(t, m, 0, "")
	holdState(t, m, 1, "")
	holdFlying(t, m)

	// All of it went to its disk.
	s := shot(t, m, 3)
	holdErr(t, m.Boot(2), nil)
	holdShot(t, m, s)
}

// P101: fields that a kind does not name say nothing.
func TestDoOtherFields(t *testing.T) {
	asked := []api.Op{makeNode(api.Root, "a"), makeNode(4, "b"), move(8, api.Root, "c"), write(4, 0, "x"), erase(4, 0), mark(4, "m", "v")}
	plain, full := begun(t, 1), begun(t, 1)
	for _, o := range asked {
		made := do(t, plain, 0, o)
		o.S, o.N = api.Stamp{Time: -7, By: 3}, 99
		switch o.Kind {
		case api.Move:
			o.Value = "value"
		case api.Insert:
			o.Name, o.Value = "name", o.Value+"\x00\xffmore"
		case api.Delete:
			o.Name, o.Value = "NAME", "value"
		case api.Set:
			o.Other = -3
		}
		if other := do(t, full, 0, o); other != made {
			t.Errorf("Do(%v): %v, not %v", o, other, made)
		}
	}
}

// P101: on each replica, with its own stamps and numbers, later than what it was told.
func TestDoOnEach(t *testing.T) {
	m := begun(t, api.Replicas)
	for round := range 3 {
		for n := range api.Replicas {
			made := do(t, m, n, makeNode(api.Root, "a"))
			if made.S.By != n || made.S.Time != round+1 || made.N != round+1 {
				t.Errorf("%v on %d in round %d", made, n, round)
			}
		}
		if !m.Calm() {
			t.Fatal("not calm")
		}
	}
}

// holdRefused: it has this error, and does nothing.
func holdRefused(t *testing.T, m *mesh.Mesh, many, n int, o api.Op, want error) {
	t.Helper()
	s := shot(t, m, many)
	if made, err := m.Do(n, o); made != (api.Op{}) || err != want {
		t.Errorf("Do(%d, %v): %v, %v, not %v", n, o, made, err, want)
	}
	holdShot(t, m, s)
}

// P101: ErrBound ahead of all, then ErrKind.
func TestDoNoSuchReplica(t *testing.T) {
	for many := 1; many <= api.Replicas; many++ {
		m := begun(t, many)
		for _, n := range append(farOff(), many) {
			for _, o := range []api.Op{{}, {Kind: 'x'}, makeNode(api.Root, "a"), makeNode(99, "A"), write(4, 0, ""), erase(4, 0), mark(4, "", "")} {
				holdRefused(t, m, many, n, o, api.ErrBound)
			}
		}
	}
}

func TestDoNoKind(t *testing.T) {
	m := begun(t, 2)
	do(t, m, 1, makeNode(api.Root, "a"))
	holdErr(t, m.Cut(1, 0), nil)
	for kind := range 256 {
		switch byte(kind) {
		case api.Move, api.Insert, api.Delete, api.Set:
			continue
		}
		holdRefused(t, m, 2, 1, api.Op{Kind: byte(kind), Node: 5, Name: "a", Value: "x"}, api.ErrKind)
		holdRefused(t, m, 2, 0, api.Op{Kind: byte(kind), Node: 99, Other: -1}, api.ErrKind)
	}
}

// refusals are what a replica that knows node 4 (in Root), node 8 (in 4), and the text x of 4 refuses, with its errors.
func refusals() []struct {
	o    api.Op
	want error
} {
	type refusal = struct {
		o    api.Op
		want error
	}
	l := []refusal{
		{makeNode(12, "a"), api.ErrNone}, {makeNode(api.Root, ""), api.ErrName}, {makeNode(api.Root, "A"), api.ErrName}, {makeNode(4, "abcdefghijklm"), api.ErrName},
		{move(4, 8, "a"), api.ErrCycle}, {move(4, 4, "a"), api.ErrCycle}, {move(8, 8, "a"), api.ErrCycle}, {move(4, 8, ""), api.ErrName}, {move(8, 12, "a"), api.ErrNone}, {move(api.Trash, api.Root, "a"), api.ErrNone}, {move(12, api.Root, "a"), api.ErrNone},
		{write(4, 2, "x"), api.ErrNone}, {write(8, 1, "x"), api.ErrNone}, {write(api.Root, 0, "x"), api.ErrNone}, {write(api.Trash, 0, "x"), api.ErrNone}, {write(12, 0, "x"), api.ErrNone},
		{write(4, 0, ""), api.ErrShape}, {write(4, 1, "\x00"), api.ErrShape}, {write(4, 0, "\x1fx"), api.ErrShape}, {write(4, 0, "\x7fx"), api.ErrShape}, {write(4, 0, "é"), api.ErrShape}, {write(12, 0, ""), api.ErrNone},
		{erase(4, 1), api.ErrNone}, {erase(8, 0), api.ErrNone}, {erase(api.Root, 0), api.ErrNone}, {erase(12, 0), api.ErrNone},
		{mark(api.Root, "m", "v"), api.ErrNone}, {mark(12, "m", "v"), api.ErrNone}, {mark(4, "", "v"), api.ErrName}, {mark(4, "m|", "v"), api.ErrName}, {mark(4, "m", "abcdefghijklm"), api.ErrShape}, {mark(4, "m", "\n"), api.ErrShape},
	}
	for _, n := range farOff() {
		l = append(l, refusal{makeNode(n, "a"), api.ErrNone}, refusal{move(n, 4, "a"), api.ErrNone}, refusal{move(8, n, "a"), api.ErrNone}, refusal{write(n, 0, "x"), api.ErrNone}, refusal{write(4, n, "x"), api.ErrNone}, refusal{erase(n, 0), api.ErrNone}, refusal{erase(4, n), api.ErrNone}, refusal{mark(n, "m", "v"), api.ErrNone})
	}
	return l
}

// P101: the replica's errors, also ahead of the journal's. What is refused is not on the disk.
func TestDoRefused(t *testing.T) {
	for _, c := range refusals() {
		m := begun(t, 1)
		for _, o := range []api.Op{makeNode(api.Root, "a"), makeNode(4, "b"), write(4, 0, "x")} {
			do(t, m, 0, o)
		}
		holdRefused(t, m, 1, 0, c.o, c.want)
		holdErr(t, m.Cut(0, 0), nil)
		holdRefused(t, m, 1, 0, c.o, c.want)
		s := shot(t, m, 1)
		holdErr(t, m.Boot(0), nil)
		holdShot(t, m, s)
	}
}

// P101: ErrFull is one of the replica's errors: MaxOps are known, or its time has come to its end.
func TestDoFull(t *testing.T) {
	m := begun(t, 1)
	do(t, m, 0, makeNode(api.Root, "a"))
	for range api.MaxOps - 1 {
		do(t, m, 0, write(4, 0, "x"))
	}
	for _, o := range []api.Op{makeNode(api.Root, "b"), move(4, api.Trash, "b"), write(4, 0, "y"), erase(4, 0), mark(4, "m", "v")} {
		holdRefused(t, m, 1, 0, o, api.ErrFull)
	}
	holdErr(t, m.Boot(0), nil)
	holdVector(t, m, 0, vector.Vector{api.MaxOps})

	m = begun(t, 2)
	last := api.Op{S: api.Stamp{Time: api.MaxTime, By: 1}, N: 1, Kind: api.Move, Node: api.MaxTime*api.Replicas + 1, Name: "a"}
	join(t, replicaOf(t, m, 0), last)
	holdRefused(t, m, 2, 0, makeNode(api.Root, "b"), api.ErrFull)
}

// join from outside: it is not on the disk.
func join(t *testing.T, r *replica.Replica, l ...api.Op) {
	t.Helper()
	if n, err := r.Join(l); n != len(l) || err != nil {
		t.Fatalf("Join(%v): %d, %v", l, n, err)
	}
}

// P101: the journal's error: then it is not joined. The next one, behind Boot, has its number and its stamp.
func TestDoWithoutPower(t *testing.T) {
	size := len("i|2|0|2|4|0||78#00000000\n")
	for n := range size {
		m := begun(t, 2)
		first := do(t, m, 0, makeNode(api.Root, "a"))
		holdErr(t, m.Cut(0, n), nil)
		for range 3 {
			holdRefused(t, m, 2, 0, write(4, 0, "x"), api.ErrOff)
		}
		holdErr(t, m.Boot(0), nil)
		holdState(t, m, 0, "4 in 0 a")
		if o := do(t, m, 0, write(4, 0, "y")); o.N != first.N+1 || o.S.Time != first.S.Time+1 {
			t.Errorf("cut at %d: %v", n, o)
		}
		holdState(t, m, 0, "4 in 0 a\n4 text y")
	}
	m := begun(t, 1)
	do(t, m, 0, makeNode(api.Root, "a"))
	holdErr(t, m.Cut(0, size), nil)
	do(t, m, 0, write(4, 0, "x"))
	holdRefused(t, m, 1, 0, write(4, 0, "x"), api.ErrOff)
	holdErr(t, m.Boot(0), nil)
	holdState(t, m, 0, "4 in 0 a\n4 text x")
}
