package script

import (
	"strings"
	"testing"

	"concordat/api"
	"concordat/mesh"
	"concordat/replica"
)

// begun player, and its replicas: what no script could teach them may be joined here.
func begun(t *testing.T) (*player, []*replica.Replica) {
	t.Helper()
	m, err := mesh.New(replicas)
	if err != nil {
		t.Fatal(err)
	}
	var l []*replica.Replica
	for n := range replicas {
		r, err := m.Replica(n)
		if err != nil {
			t.Fatal(err)
		}
		l = append(l, r)
	}
	return &player{m}, l
}

func join(t *testing.T, r *replica.Replica, l ...api.Op) {
	t.Helper()
	if n, err := r.Join(l); n != len(l) || err != nil {
		t.Fatal(n, err)
	}
}

func holdAnswer(t *testing.T, p *player, line, want string) {
	t.Helper()
	if got := answer(p.commands(), line); got != want {
		t.Errorf("%q: %q, not %q", line, got, want)
	}
}

// made by replica 3, which is none of the mesh's: its first operation.
func made(name string) api.Op {
	return api.Op{S: api.Stamp{Time: 1, By: 3}, N: 1, Kind: api.Move, Node: 7, Name: name}
}

// P130: calm says no, where two know one operation in two ways.
func TestNotCalm(t *testing.T) {
	p, l := begun(t)
	join(t, l[0], made("a"))
	join(t, l[1], made("b"))
	holdAnswer(t, p, "calm", "no")
	holdAnswer(t, p, "state 0", "7 in 0 a")
	holdAnswer(t, p, "state 1", "7 in 0 b")
}

// P131: an error that has a place is told by its text alone.
func TestPlaceAside(t *testing.T) {
	p, l := begun(t)
	holdAnswer(t, p, "ask 1 0", "ok")
	join(t, l[0], made("a"))
	join(t, l[1], made("b"))
	holdAnswer(t, p, "go 0", "ok")
	holdAnswer(t, p, "go 0", "concordat: exist")
}

// P131: errors of replicas that know all that they can.
func TestFullReplica(t *testing.T) {
	p, l := begun(t)
	o := made("a")
	for range api.MaxOps {
		join(t, l[0], o)
		o.S.Time, o.N = o.S.Time+1, o.N+1
	}
	for _, line := range []string{"make 0 0 a", "move 0 7 1 a", "write 0 7 0 x", "mark 0 7 m v"} {
		holdAnswer(t, p, line, "concordat: full")
	}
	holdAnswer(t, p, "make 0 9 a", "concordat: none")
	holdAnswer(t, p, "move 0 0 0 a", "concordat: none")
	holdAnswer(t, p, "vector 0", "0.0.0.400")
}

// No form has more words than are looked at, and each has a kind that is read.
func TestForms(t *testing.T) {
	p, _ := begun(t)
	all := p.commands()
	if len(all) != len(p.changes())+len(p.passages())+len(p.looks()) || len(all) != 18 {
		t.Errorf("%d commands", len(all))
	}
	for name, c := range all {
		if len(c.form) > mostSaid || strings.Trim(c.form, "DNWLP") != "" {
			t.Errorf("%s: %s", name, c.form)
		}
	}
	if _, ok := read("X", []string{"a"}); ok {
		t.Error("a kind that is none")
	}
}
