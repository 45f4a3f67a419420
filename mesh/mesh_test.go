package mesh_test

import (
	"math"
	"reflect"
	"testing"

	"concordat/api"
	"concordat/mesh"
	"concordat/replica"
	"concordat/vector"
)

// The face that is given: a changed signature does not compile.
var (
	_ func(many int) (*mesh.Mesh, error)                  = mesh.New
	_ func(m *mesh.Mesh, n int) (*replica.Replica, error) = (*mesh.Mesh).Replica
	_ func(m *mesh.Mesh) []mesh.Note                      = (*mesh.Mesh).Flying
	_ func(m *mesh.Mesh, n int, o api.Op) (api.Op, error) = (*mesh.Mesh).Do
	_ func(m *mesh.Mesh, from, to int) error              = (*mesh.Mesh).Ask
	_ func(m *mesh.Mesh, at int) error                    = (*mesh.Mesh).Deliver
	_ func(m *mesh.Mesh, at int) error                    = (*mesh.Mesh).Drop
	_ func(m *mesh.Mesh, at int) error                    = (*mesh.Mesh).Twice
	_ func(m *mesh.Mesh, n, bytes int) error              = (*mesh.Mesh).Cut
	_ func(m *mesh.Mesh, n int) error                     = (*mesh.Mesh).Boot
	_ func(m *mesh.Mesh) bool                             = (*mesh.Mesh).Calm
	_ struct {
		From, To int
		Ask      bool
		Have     vector.Vector
		Ops      []api.Op
	} = mesh.Note{}
)

// farOff numbers are none of any list, nor of any mesh.
func farOff() []int {
	return []int{math.MinInt, math.MinInt32, -api.MaxFlying, -4, -1, api.MaxFlying, api.MaxOps, math.MaxInt32, math.MaxInt}
}

func begun(t *testing.T, many int) *mesh.Mesh {
	t.Helper()
	m, err := mesh.New(many)
	if err != nil || m == nil {
		t.Fatalf("New(%d): %v, %v", many, m, err)
	}
	return m
}

func replicaOf(t *testing.T, m *mesh.Mesh, n int) *replica.Replica {
	t.Helper()
	r, err := m.Replica(n)
	if err != nil || r == nil {
		t.Fatalf("Replica(%d): %v, %v", n, r, err)
	}
	return r
}

// What one asks Do for.
func makeNode(into int, name string) api.Op {
	return api.Op{Kind: api.Move, Other: into, Name: name}
}

func move(node, into int, name string) api.Op {
	return api.Op{Kind: api.Move, Node: node, Other: into, Name: name}
}

func write(node, at int, letter string) api.Op {
	return api.Op{Kind: api.Insert, Node: node, Other: at, Value: letter}
}

func erase(node, at int) api.Op { return api.Op{Kind: api.Delete, Node: node, Other: at} }

func mark(node int, name, value string) api.Op {
	return api.Op{Kind: api.Set, Node: node, Name: name, Value: value}
}

func do(t *testing.T, m *mesh.Mesh, n int, o api.Op) api.Op {
	t.Helper()
	made, err := m.Do(n, o)
	if err != nil {
		t.Fatalf("Do(%d, %v): %v", n, o, err)
	}
	return made
}

// holdErr: just this error, bare (nil: none).
func holdErr(t *testing.T, err, want error) {
	t.Helper()
	if err != want {
		t.Fatalf("error %v, not %v", err, want)
	}
}

// holdFault: this error, with this place.
func holdFault(t *testing.T, err error, at int, want error) {
	t.Helper()
	if f, is := err.(*api.Fault); !is || f.At != at || f.Err != want {
		t.Fatalf("error %#v, not %v at %d", err, want, at)
	}
}

func holdState(t *testing.T, m *mesh.Mesh, n int, want string) {
	t.Helper()
	if s := replicaOf(t, m, n).State(); s != want {
		t.Fatalf("state of %d: %q, not %q", n, s, want)
	}
}

func holdVector(t *testing.T, m *mesh.Mesh, n int, want vector.Vector) {
	t.Helper()
	if v := replicaOf(t, m, n).Vector(); v != want {
		t.Fatalf("vector of %d: %v, not %v", n, v, want)
	}
}

// sameNotes: nil lists and empty ones are one thing.
func sameNotes(a, b []mesh.Note) bool {
	if len(a) != len(b) {
		return false
	}
	for i := range a {
		x, y := a[i], b[i]
		if len(x.Ops) == 0 && len(y.Ops) == 0 {
			x.Ops, y.Ops = nil, nil
		}
		if !reflect.DeepEqual(x, y) {
			return false
		}
	}
	return true
}

func holdFlying(t *testing.T, m *mesh.Mesh, want ...mesh.Note) {
	t.Helper()
	if l := m.Flying(); !sameNotes(l, want) {
		t.Fatalf("flying: %v, not %v", l, want)
	}
}

func ask(from, to int, have ...int) mesh.Note {
	n := mesh.Note{From: from, To: to, Ask: true}
	copy(n.Have[:], have)
	return n
}

func tell(from, to int, l ...api.Op) mesh.Note { return mesh.Note{From: from, To: to, Ops: l} }

// snapshot of all that a mesh tells at this moment.
type snapshot struct {
	flying []mesh.Note
	states []string
	ops    [][]api.Op
}

func shot(t *testing.T, m *mesh.Mesh, many int) snapshot {
	t.Helper()
	s := snapshot{flying: m.Flying()}
	for n := range many {
		r := replicaOf(t, m, n)
		s.states = append(s.states, r.State())
		s.ops = append(s.ops, r.Ops())
	}
	return s
}

// holdShot: nothing has changed since.
func holdShot(t *testing.T, m *mesh.Mesh, want snapshot) {
	t.Helper()
	if got := shot(t, m, len(want.states)); !sameNotes(got.flying, want.flying) || !reflect.DeepEqual(got.states, want.states) || !reflect.DeepEqual(got.ops, want.ops) {
		t.Fatalf("it is %v, and was %v", got, want)
	}
}

// P100: replicas 0 to many - 1, without operations; nothing flies.
func TestNew(t *testing.T) {
	for many := 1; many <= api.Replicas; many++ {
		m := begun(t, many)
		holdFlying(t, m)
		for n := range many {
			r := replicaOf(t, m, n)
			if r.By() != n || r.Time() != 0 || len(r.Ops()) != 0 || r.State() != "" {
				t.Errorf("%d of %d: %d, time %d, %v", n, many, r.By(), r.Time(), r.Ops())
			}
		}
		for _, n := range append(farOff(), many, many+1) {
			if r, err := m.Replica(n); r != nil || err != api.ErrBound {
				t.Errorf("%d of %d: %v, %v", n, many, r, err)
			}
		}
	}
}

func TestNewOutOfBounds(t *testing.T) {
	for _, many := range append(farOff(), 0, api.Replicas+1) {
		if m, err := mesh.New(many); m != nil || err != api.ErrBound {
			t.Errorf("New(%d): %v, %v", many, m, err)
		}
	}
}

// P100: a replica is the mesh's own: what is joined there is seen by the mesh, and what the mesh does is seen there.
func TestReplicaIsItsOwn(t *testing.T) {
	m := begun(t, 2)
	r := replicaOf(t, m, 1)
	o, err := r.Make(api.Root, "a")
	holdErr(t, err, nil)
	holdState(t, m, 1, "")
	if _, err := r.Join([]api.Op{o}); err != nil {
		t.Fatal(err)
	}
	if replicaOf(t, m, 1) != r {
		t.Error("it is another one")
	}
	holdState(t, m, 1, "5 in 0 a")
	do(t, m, 1, makeNode(5, "b"))
	if s := r.State(); s != "5 in 0 a\n9 in 5 b" {
		t.Error(s)
	}
	holdErr(t, m.Ask(0, 1), nil)
	holdErr(t, m.Deliver(0), nil)
	holdErr(t, m.Deliver(0), nil)
	holdState(t, m, 0, r.State())
}

// P100: each replica is one by itself, and has a disk of its own.
func TestReplicasAreApart(t *testing.T) {
	m := begun(t, api.Replicas)
	for n := range api.Replicas {
		do(t, m, n, makeNode(api.Root, "abcd"[n:n+1]))
	}
	states := []string{"4 in 0 a", "5 in 0 b", "6 in 0 c", "7 in 0 d"}
	for n, s := range states {
		holdState(t, m, n, s)
	}
	holdErr(t, m.Cut(2, 0), nil)
	for n := range api.Replicas {
		if _, err := m.Do(n, write(4+n, 0, "x")); (err == nil) != (n != 2) {
			t.Errorf("%d: %v", n, err)
		}
	}
	for n, s := range states {
		holdErr(t, m.Boot(n), nil)
		if n != 2 {
			s += "\n" + s[:1] + " text x"
		}
		holdState(t, m, n, s)
	}
}

// P2: each mesh is for itself.
func TestMeshesAreApart(t *testing.T) {
	a, b := begun(t, 2), begun(t, 2)
	do(t, a, 0, makeNode(api.Root, "a"))
	holdErr(t, a.Ask(1, 0), nil)
	holdErr(t, a.Cut(1, 0), nil)
	holdFlying(t, b)
	holdState(t, b, 0, "")
	do(t, b, 1, makeNode(api.Root, "b"))
	if !b.Calm() {
		t.Error("not calm")
	}
	holdState(t, b, 0, "5 in 0 b")
	holdState(t, a, 0, "4 in 0 a")
	holdFlying(t, a, ask(1, 0))
}
