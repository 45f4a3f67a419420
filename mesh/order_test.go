package mesh_test

import (
	"errors"
	"reflect"
	"slices"
	"testing"

	"concordat/api"
	"concordat/journal"
	"concordat/mesh"
	"concordat/op"
	"concordat/replica"
)

// slow is a mesh by the words of P100 to P103: of each replica the operations that it knows, in the order in which they came, and its disk.
type slow struct {
	known  [][]api.Op
	disks  []*journal.Disk
	flying []mesh.Note
}

func slowMesh(many int) *slow {
	s := &slow{known: make([][]api.Op, many)}
	for range many {
		d, _ := journal.NewDisk("")
		s.disks = append(s.disks, d)
	}
	return s
}

// replica that knows what n knows.
func (s *slow) replica(n int) *replica.Replica {
	r, _ := replica.New(n)
	r.Join(s.known[n])
	return r
}

func (s *slow) isReplica(n int) bool { return n >= 0 && n < len(s.known) }

func (s *slow) isNote(at int) bool { return at >= 0 && at < len(s.flying) }

func (s *slow) do(n int, o api.Op) (api.Op, error) {
	if !s.isReplica(n) {
		return api.Op{}, api.ErrBound
	}
	r := s.replica(n)
	made, err := api.Op{}, error(api.ErrKind)
	switch {
	case o.Kind == api.Move && o.Node == 0:
		made, err = r.Make(o.Other, o.Name)
	case o.Kind == api.Move:
		made, err = r.Move(o.Node, o.Other, o.Name)
	case o.Kind == api.Insert:
		made, err = r.Write(o.Node, o.Other, (o.Value + "\x00")[0])
	case o.Kind == api.Delete:
		made, err = r.Erase(o.Node, o.Other)
	case o.Kind == api.Set:
		made, err = r.Mark(o.Node, o.Name, o.Value)
	}
	if err == nil {
		err = journal.Append(s.disks[n], made)
	}
	if err != nil {
		return api.Op{}, err
	}
	s.known[n] = append(s.known[n], made)
	return made, nil
}

func (s *slow) ask(from, to int) error {
	switch {
	case !s.isReplica(from) || !s.isReplica(to) || from == to:
		return api.ErrBound
	case len(s.flying) == api.MaxFlying:
		return api.ErrFull
	}
	s.flying = append(s.flying, mesh.Note{From: from, To: to, Ask: true, Have: s.replica(from).Vector()})
	return nil
}

func (s *slow) drop(at int) error {
	if !s.isNote(at) {
		return api.ErrNone
	}
	s.flying = slices.Concat(s.flying[:at], s.flying[at+1:])
	return nil
}

func (s *slow) twice(at int) error {
	switch {
	case !s.isNote(at):
		return api.ErrNone
	case len(s.flying) == api.MaxFlying:
		return api.ErrFull
	}
	s.flying = append(s.flying, s.flying[at])
	return nil
}

func (s *slow) deliver(at int) error {
	if !s.isNote(at) {
		return api.ErrNone
	}
	note := s.flying[at]
	s.drop(at)
	if !note.Ask {
		return s.join(note.To, note.Ops)
	}
	var l []api.Op
	for _, o := range op.Sort(s.known[note.To]) {
		if o.N > note.Have[o.S.By] {
			l = append(l, o)
		}
	}
	if len(l) > 0 && len(s.flying) < api.MaxFlying {
		s.flying = append(s.flying, mesh.Note{From: note.To, To: note.From, Ops: l})
	}
	return nil
}

func (s *slow) join(n int, l []api.Op) error {
	if _, err := s.replica(n).Join(l); err != nil {
		return err
	}
	var told error
	for _, o := range op.Sort(l) {
		if slices.Contains(s.known[n], o) {
			continue
		}
		s.known[n] = append(s.known[n], o)
		if told == nil {
			told = journal.Append(s.disks[n], o)
		}
	}
	return told
}

func (s *slow) cut(n, bytes int) error {
	if !s.isReplica(n) {
		return api.ErrBound
	}
	return s.disks[n].Cut(bytes)
}

func (s *slow) boot(n int) error {
	if !s.isReplica(n) {
		return api.ErrBound
	}
	l, _ := journal.Recover(s.disks[n])
	s.known[n] = nil
	r := s.replica(n)
	_, err := r.Join(l)
	s.known[n] = r.Ops()
	return err
}

func (s *slow) calm() bool {
	s.flying = nil
	for range s.known {
		for from := range s.known {
			for to := range s.known {
				s.ask(from, to)
			}
		}
		for len(s.flying) > 0 {
			s.deliver(0)
		}
	}
	for n := range s.known {
		if s.replica(n).State() != s.replica(0).State() {
			return false
		}
	}
	return true
}

// both: a mesh, and a slow one that has come the same way.
type both struct {
	m *mesh.Mesh
	s *slow
}

func bothBegun(t *testing.T, many int) both { return both{begun(t, many), slowMesh(many)} }

// holdSame: all that the mesh tells is as the words say.
func (b both) holdSame(t *testing.T) {
	t.Helper()
	holdFlying(t, b.m, b.s.flying...)
	for n, known := range b.s.known {
		r := replicaOf(t, b.m, n)
		if got := r.Ops(); !slices.Equal(got, op.Sort(known)) {
			t.Fatalf("%d knows %v, not %v", n, got, known)
		}
		holdState(t, b.m, n, b.s.replica(n).State())
		if r.By() != n {
			t.Fatalf("%d is %d", n, r.By())
		}
	}
}

// holdSameErr: also the place is the same, if there is one.
func holdSameErr(t *testing.T, got, want error) {
	t.Helper()
	var f *api.Fault
	if got != want && !(errors.As(want, &f) && reflect.DeepEqual(got, want)) {
		t.Fatalf("error %v, not %v", got, want)
	}
}

// row of numbers that look like random ones, and are always the same.
type row uint32

func (r *row) next(n int) int {
	*r = *r*1664525 + 1013904223
	return int(*r>>8) % n
}

// someDo asks replica n for something, about nodes that it knows, or not.
func (x *row) someDo(r *replica.Replica) api.Op {
	nodes := []int{api.Root, api.Trash, 6}
	for _, p := range r.Tree().Places() {
		nodes = append(nodes, p.Node, p.Node)
	}
	node, into := nodes[x.next(len(nodes))], nodes[x.next(len(nodes))]
	switch x.next(9) {
	case 0, 1:
		return makeNode(into, "abc"[x.next(3):])
	case 2:
		return move(node, into, "abc"[x.next(4):])
	case 3, 4, 5:
		return write(node, x.next(4), "xyz"[x.next(4):])
	case 6:
		return erase(node, x.next(4))
	case 7:
		return mark(node, "mn"[x.next(2):], "vw"[x.next(3):])
	}
	return api.Op{Kind: "midsx"[x.next(5)], Node: x.next(9), Other: x.next(9) - 1, Name: "n", Value: "v"}
}

// step does one thing with both: what it is hangs on the row.
func (b both) step(t *testing.T, x *row) {
	t.Helper()
	many := len(b.s.known)
	n, to, at := x.next(many), x.next(many), x.next(6)
	if x.next(40) == 0 {
		n, to, at = n-many, many, x.next(3)*api.MaxFlying-1
	}
	switch x.next(13) {
	case 0, 1, 2:
		o := api.Op{Kind: api.Move, Name: "n"}
		if n >= 0 {
			o = x.someDo(b.s.replica(n))
		}
		made, err := b.m.Do(n, o)
		want, wantErr := b.s.do(n, o)
		holdSameErr(t, err, wantErr)
		if made != want {
			t.Fatalf("Do(%d, %v): %v, not %v", n, o, made, want)
		}
	case 3, 4, 5:
		holdSameErr(t, b.m.Ask(n, to), b.s.ask(n, to))
	case 6, 7, 8:
		holdSameErr(t, b.m.Deliver(at), b.s.deliver(at))
	case 9:
		holdSameErr(t, b.m.Drop(at), b.s.drop(at))
	case 10:
		holdSameErr(t, b.m.Twice(at), b.s.twice(at))
	case 11:
		bytes := x.next(150) - 1
		holdSameErr(t, b.m.Cut(n, bytes), b.s.cut(n, bytes))
	case 12:
		b.rareStep(t, x, n)
	}
}

// rareStep: a boot, a calm, or a Join from outside, by which Boot has errors, too.
func (b both) rareStep(t *testing.T, x *row, n int) {
	t.Helper()
	switch x.next(20) {
	default:
		holdSameErr(t, b.m.Boot(n), b.s.boot(n))
	case 0, 1:
		b.holdSameCalm(t)
	case 2:
		b.joinOutside(t, n, b.s.known[x.next(len(b.s.known))]...)
	}
}

func (b both) holdSameCalm(t *testing.T) {
	t.Helper()
	if got, want := b.m.Calm(), b.s.calm(); got != want {
		t.Fatalf("calm: %v, not %v", got, want)
	}
}

func (b both) joinOutside(t *testing.T, n int, l ...api.Op) {
	t.Helper()
	if !b.s.isReplica(n) {
		return
	}
	r := replicaOf(t, b.m, n)
	if _, err := r.Join(l); err == nil {
		b.s.known[n] = r.Ops()
	}
}

// P100 to P103: rows of whatever may be asked. Behind each step all is held against the words.
func TestRows(t *testing.T) {
	for seed := range 250 {
		x := row(seed)
		b := bothBegun(t, 1+seed%api.Replicas)
		for range 150 {
			b.step(t, &x)
			b.holdSame(t)
		}
	}
}

// P103: replicas of whom several were told, from outside, that one did this, or that. What Calm does in each round shows then: who could not join all that came in one round may join some of it in the next one.
func TestCalmAmongLiars(t *testing.T) {
	for seed := range 400 {
		x := row(seed)
		many := 2 + seed%(api.Replicas-1)
		b := bothBegun(t, many)
		for range 3 + x.next(12) {
			n, by := x.next(many), x.next(api.Replicas)
			r := b.s.replica(n)
			s := api.Stamp{Time: r.Time() + 1, By: by}
			b.joinOutside(t, n, api.Op{S: s, N: r.Vector()[by] + 1, Kind: api.Move, Node: s.Time*api.Replicas + by, Name: "abcd"[x.next(4):]})
		}
		for range 2 {
			b.holdSameCalm(t)
			b.holdSame(t)
			holdSameErr(t, b.m.Boot(0), b.s.boot(0))
		}
	}
}

// P104: notes are lost, twice, and late; power fails, and replicas are anew: behind Calm all have the same state, and it is that of all that anybody knew, in any order.
func TestCalmBehindRows(t *testing.T) {
	for seed := range 300 {
		x := row(seed)
		many := 2 + seed%(api.Replicas-1)
		m := begun(t, many)
		for range 4 {
			for range 60 {
				someStep(m, &x, many)
			}
			var all []api.Op
			for n := range many {
				all = append(all, replicaOf(t, m, n).Ops()...)
			}
			holdCalm(t, m, many)
			r, _ := replica.New(seed % api.Replicas)
			if _, err := r.Join(all); err != nil {
				t.Fatal(err)
			}
			holdState(t, m, 0, r.State())
		}
	}
}

// someStep of a mesh that nobody joins anything to from outside.
func someStep(m *mesh.Mesh, x *row, many int) {
	n := x.next(many)
	switch x.next(10) {
	case 0, 1, 2:
		r, _ := m.Replica(n)
		m.Do(n, x.someDo(r))
	case 3, 4:
		m.Ask(n, x.next(many))
	case 5, 6:
		m.Deliver(x.next(5))
	case 7:
		m.Drop(x.next(5))
	case 8:
		m.Twice(x.next(5))
	case 9:
		if x.next(2) == 0 {
			m.Cut(n, x.next(200))
		} else {
			m.Boot(n)
		}
	}
}

// P103: where nobody joins from outside, Boot has no error, and one that is anew knows nothing that it did not know, and all of its own.
func TestBootBehindRows(t *testing.T) {
	for seed := range 300 {
		x := row(seed)
		many := 1 + seed%api.Replicas
		m := begun(t, many)
		for range 30 {
			for range 10 {
				someStep(m, &x, many)
			}
			n := x.next(many)
			ahead := replicaOf(t, m, n).Ops()
			own := replicaOf(t, m, n).Vector()[n]
			holdErr(t, m.Boot(n), nil)
			for _, o := range replicaOf(t, m, n).Ops() {
				if !slices.Contains(ahead, o) {
					t.Fatalf("%v is new", o)
				}
			}
			if v := replicaOf(t, m, n).Vector(); v[n] != own {
				t.Fatalf("%d of its own, not %d", v[n], own)
			}
		}
	}
}

// Each three bytes are a step, with numbers that may be none.
func FuzzAnySteps(f *testing.F) {
	f.Add([]byte{3, 0, 0, 0, 4, 1, 0, 6, 0, 0, 6, 0, 0, 11, 1, 20, 12, 1, 0})
	f.Add([]byte{4, 0, 1, 0, 0, 2, 7, 4, 0, 2, 10, 0, 0, 6, 0, 0, 6, 1, 0, 9, 0, 0})
	f.Fuzz(func(t *testing.T, bytes []byte) {
		if len(bytes) < 1 || len(bytes) > 300 {
			return
		}
		b := bothBegun(t, 1+int(bytes[0]%api.Replicas))
		for l := bytes[1:]; len(l) >= 3; l = l[3:] {
			b.fuzzed(t, l[0], int(l[1])%6-1, int(l[2]))
			b.holdSame(t)
		}
	})
}

func (b both) fuzzed(t *testing.T, kind byte, n, k int) {
	t.Helper()
	switch kind % 12 {
	default:
		o := api.Op{Kind: "midsx"[kind%5], Node: k % 13, Other: k%7 - 1, Name: "ab"[k%3:], Value: "xy"[k%3:]}
		made, err := b.m.Do(n, o)
		want, wantErr := b.s.do(n, o)
		holdSameErr(t, err, wantErr)
		if made != want {
			t.Fatalf("Do(%d, %v): %v, not %v", n, o, made, want)
		}
	case 5:
		holdSameErr(t, b.m.Ask(n, k%6-1), b.s.ask(n, k%6-1))
	case 6:
		holdSameErr(t, b.m.Deliver(k-1), b.s.deliver(k-1))
	case 7:
		holdSameErr(t, b.m.Drop(k-1), b.s.drop(k-1))
	case 8:
		holdSameErr(t, b.m.Twice(k-1), b.s.twice(k-1))
	case 9:
		holdSameErr(t, b.m.Cut(n, k-1), b.s.cut(n, k-1))
	case 10:
		holdSameErr(t, b.m.Boot(n), b.s.boot(n))
	case 11:
		b.holdSameCalm(t)
	}
}
