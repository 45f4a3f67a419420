package mesh_test

import (
	"fmt"
	"slices"
	"strings"
	"sync"
	"testing"

	"concordat/api"
	"concordat/mesh"
	"concordat/op"
	"concordat/vector"
)

// holdCalm: all have the same state, and nothing flies.
func holdCalm(t *testing.T, m *mesh.Mesh, many int) {
	t.Helper()
	if !m.Calm() {
		t.Fatal("not calm")
	}
	holdFlying(t, m)
	for n := range many {
		holdState(t, m, n, replicaOf(t, m, 0).State())
		holdVector(t, m, n, replicaOf(t, m, 0).Vector())
	}
}

// P103: without operations, and of one replica alone.
func TestCalmWithLittle(t *testing.T) {
	for many := 1; many <= api.Replicas; many++ {
		m := begun(t, many)
		holdCalm(t, m, many)
		few(t, m)
		holdCalm(t, m, many)
		holdState(t, m, many-1, fewState)
		s := shot(t, m, many)
		holdCalm(t, m, many)
		holdShot(t, m, s)
	}
}

// P103, P104: each did something by itself; it is on each disk then.
func TestCalm(t *testing.T) {
	for many := 1; many <= api.Replicas; many++ {
		m := begun(t, many)
		var want vector.Vector
		for n := range many {
			node := do(t, m, n, makeNode(api.Root, "n")).Node
			for range n {
				do(t, m, n, write(node, 0, "x"))
			}
			want[n] = n + 1
		}
		holdCalm(t, m, many)
		for n := range many {
			holdErr(t, m.Boot(n), nil)
			holdVector(t, m, n, want)
		}
		holdCalm(t, m, many)
	}
}

// P103: what flies is lost ahead of it: it is neither delivered nor in the way.
func TestCalmLosesWhatFlies(t *testing.T) {
	// There is room for what is asked.
	m := begun(t, 2)
	l := few(t, m)
	holdErr(t, m.Ask(1, 0), nil)
	holdErr(t, m.Deliver(0), nil)
	for range api.MaxFlying - 1 {
		holdErr(t, m.Twice(0), nil)
	}
	holdCalm(t, m, 2)
	holdState(t, m, 1, fewState)

	// Two conflicting operations of one number: the one that flies comes first, if it is not lost.
	m = begun(t, 3)
	join(t, replicaOf(t, m, 0), l...)
	holdErr(t, m.Ask(2, 0), nil)
	holdErr(t, m.Deliver(0), nil)
	holdErr(t, m.Boot(0), nil)
	other := l[0]
	other.Name = "other"
	join(t, replicaOf(t, m, 1), other)
	holdCalm(t, m, 3)
	holdState(t, m, 2, "4 in 0 other")
}

// P103: in each round all have asked ahead of what is delivered: each hears of each other one, in the order of their numbers, and its disk keeps it in that order.
func TestCalmInOrder(t *testing.T) {
	made := func() *mesh.Mesh {
		m := begun(t, 3)
		for n := range 3 {
			for range 3 {
				do(t, m, n, makeNode(api.Root, "abc"[n:n+1]))
			}
		}
		return m
	}
	for n := range 3 {
		var others []api.Op
		for other := range 3 {
			if other != n {
				others = append(others, replicaOf(t, made(), other).Ops()...)
			}
		}
		for many := range len(others) + 1 {
			m := made()
			own := replicaOf(t, m, n).Ops()
			holdErr(t, m.Cut(n, len(recordsOf(others[:many]))), nil)
			holdCalm(t, m, 3)
			holdErr(t, m.Boot(n), nil)
			if got := replicaOf(t, m, n).Ops(); !slices.Equal(got, op.Sort(append(own, others[:many]...))) {
				t.Errorf("%d keeps %v, not %v", n, got, others[:many])
			}
		}
	}
}

// P103: it says so where not all have the same state.
func TestNotCalm(t *testing.T) {
	// Two operations of one number, by Joins from outside.
	m := begun(t, 3)
	for n, name := range []string{"a", "b"} {
		join(t, replicaOf(t, m, n), api.Op{S: api.Stamp{Time: 1, By: 2}, N: 1, Kind: api.Move, Node: 6, Name: name})
	}
	for range 3 {
		if m.Calm() {
			t.Fatal("calm")
		}
		holdFlying(t, m)
		holdState(t, m, 0, "6 in 0 a")
		holdState(t, m, 1, "6 in 0 b")
		holdState(t, m, 2, "6 in 0 a")
	}
}

// P104: there is room for MaxOps, and not for one more: all the same each has what it could join.
func TestCalmRoom(t *testing.T) {
	for _, more := range []int{0, 1} {
		m := begun(t, 3)
		for n := range 2 {
			node := do(t, m, n, makeNode(api.Root, "n")).Node
			for range api.MaxOps/2 - 1 {
				do(t, m, n, mark(node, "m", "v"))
			}
		}
		if more == 0 {
			holdCalm(t, m, 3)
			holdVector(t, m, 2, vector.Vector{api.MaxOps / 2, api.MaxOps / 2})
			continue
		}
		do(t, m, 1, makeNode(api.Root, "more"))
		if m.Calm() {
			t.Error("calm")
		}
		holdFlying(t, m)
		holdVector(t, m, 0, vector.Vector{api.MaxOps / 2})
		holdVector(t, m, 1, vector.Vector{0, api.MaxOps/2 + 1})
		holdVector(t, m, 2, vector.Vector{api.MaxOps / 2})
	}
}

// P104: power that is off, or fails meanwhile, keeps nobody from the same state.
func TestCalmWithoutPower(t *testing.T) {
	for cut := range 120 {
		m := begun(t, 3)
		few(t, m)
		do(t, m, 2, makeNode(api.Root, "c"))
		holdErr(t, m.Cut(1, cut), nil)
		holdErr(t, m.Cut(2, 120-cut), nil)
		holdCalm(t, m, 3)
		holdState(t, m, 1, "4 in 0 a\n6 in 0 c\n4 text xy\n4 mark m v")
		for n := range 3 {
			holdErr(t, m.Boot(n), nil)
		}
		holdState(t, m, 0, "4 in 0 a\n6 in 0 c\n4 text xy\n4 mark m v")
		holdCalm(t, m, 3)
	}
}

// The document's examples: letters at one place, and moves into each other, meanwhile.
func TestCalmExamples(t *testing.T) {
	m := begun(t, 2)
	a, b := do(t, m, 0, makeNode(api.Root, "a")).Node, do(t, m, 0, makeNode(api.Root, "b")).Node
	holdCalm(t, m, 2)
	do(t, m, 0, write(a, 0, "X"))
	do(t, m, 1, write(a, 0, "Y"))
	do(t, m, 0, move(a, b, "a"))
	do(t, m, 1, move(b, a, "b"))
	holdCalm(t, m, 2)
	for n := range 2 {
		holdState(t, m, n, "4 in 8 a\n8 in 0 b\n4 text YX")
	}
}

// P2: meshes side by side answer as one after the other.
func TestSideBySide(t *testing.T) {
	told := make([]string, 8)
	var all sync.WaitGroup
	for i := range told {
		all.Go(func() {
			m, _ := mesh.New(3)
			for n := range 120 {
				m.Do(n%3, makeNode(api.Root, "a"))
				m.Do(n%3, write(4+n%3, n%4, "x"))
				m.Ask(n%3, (n+1)%3)
				m.Deliver(n % 4)
				m.Twice(n % 5)
				if n%10 == 0 {
					m.Cut(n%3, n)
					m.Calm()
					m.Boot(n % 3)
				}
			}
			told[i] = fmt.Sprint(m.Calm())
			for n := range 3 {
				r, _ := m.Replica(n)
				told[i] += fmt.Sprintln(r.Ops(), r.State())
			}
		})
	}
	all.Wait()
	for _, s := range told {
		if s != told[0] || !strings.HasPrefix(s, "true") {
			t.Fatalf("%s, not %s", s, told[0])
		}
	}
}
