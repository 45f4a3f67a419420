package mesh_test

import (
	"strings"
	"testing"

	"concordat/api"
	"concordat/journal"
	"concordat/mesh"
	"concordat/vector"
)

// recordsOf right operations, as a disk has them.
func recordsOf(l []api.Op) string {
	d, _ := journal.NewDisk("")
	for _, o := range l {
		journal.Append(d, o)
	}
	return d.Bytes()
}

func recordSize(o api.Op) int { return len(recordsOf([]api.Op{o})) }

// P103: ErrBound: no such n, or no such bytes; ErrOff: power has failed already.
func TestCutRefused(t *testing.T) {
	for many := 1; many <= api.Replicas; many++ {
		m := begun(t, many)
		for _, n := range append(farOff(), many) {
			for _, bytes := range []int{-1, 0, 1} {
				holdErr(t, m.Cut(n, bytes), api.ErrBound)
			}
			holdErr(t, m.Boot(n), api.ErrBound)
		}
		for n := range many {
			for _, bytes := range farOff() {
				if bytes < 0 {
					holdErr(t, m.Cut(n, bytes), api.ErrBound)
				}
			}
			// No Cut waits behind those.
			do(t, m, n, makeNode(api.Root, "a"))
			holdErr(t, m.Cut(n, 0), nil)
			holdErr(t, m.Cut(n, 0), nil)
			holdRefused(t, m, many, n, makeNode(api.Root, "b"), api.ErrOff)
			for _, bytes := range []int{0, 1, 1000} {
				holdErr(t, m.Cut(n, bytes), api.ErrOff)
			}
			holdErr(t, m.Cut(n, -1), api.ErrBound)
		}
	}
}

// P103: so many bytes later, and no sooner.
func TestCutLater(t *testing.T) {
	all := recordsOf(few(t, begun(t, 1)))
	for cut := range len(all) + 3 {
		m := begun(t, 1)
		holdErr(t, m.Cut(0, cut), nil)
		made := 0
		for _, o := range []api.Op{makeNode(api.Root, "a"), write(4, 0, "y"), write(4, 0, "x"), mark(4, "m", "v")} {
			if _, err := m.Do(0, o); err == nil {
				made++
			}
		}
		want := strings.Count(all[:min(cut, len(all))], "\n")
		holdVector(t, m, 0, vector.Vector{want})
		if made != want {
			t.Errorf("cut at %d: %d were made, not %d", cut, made, want)
		}
		holdErr(t, m.Boot(0), nil)
		holdVector(t, m, 0, vector.Vector{want})
	}
}

// P103: great numbers of bytes are taken, too.
func TestCutFarOff(t *testing.T) {
	m := begun(t, 1)
	for _, bytes := range farOff() {
		if bytes >= 0 {
			holdErr(t, m.Cut(0, bytes), nil)
		}
	}
	few(t, m)
	holdState(t, m, 0, fewState)
}

// P103: Boot turns power on, and a Cut that waits comes no more.
func TestBootTurnsPowerOn(t *testing.T) {
	for _, cut := range []int{0, 10, 1000} {
		m := begun(t, 1)
		holdErr(t, m.Cut(0, cut), nil)
		if cut == 10 {
			holdRefused(t, m, 1, 0, makeNode(api.Root, "a"), api.ErrOff)
		}
		holdErr(t, m.Boot(0), nil)
		holdState(t, m, 0, "")
		few(t, m)
		for range 100 {
			do(t, m, 0, write(4, 2, "z"))
		}
		holdErr(t, m.Cut(0, 0), nil)
	}
}

// P103: a replica that is anew is the same, where its disk kept all; it goes on with its own numbers, and what flies stays.
func TestBoot(t *testing.T) {
	m := begun(t, 3)
	few(t, m)
	holdErr(t, m.Boot(2), nil)
	holdState(t, m, 2, "")
	holdErr(t, m.Ask(1, 0), nil)
	holdErr(t, m.Deliver(0), nil)
	holdErr(t, m.Deliver(0), nil)
	o := do(t, m, 1, write(4, 0, "1"))
	holdErr(t, m.Ask(1, 2), nil)
	holdErr(t, m.Ask(0, 1), nil)
	s := shot(t, m, 3)
	for range 3 {
		for n := range 3 {
			holdErr(t, m.Boot(n), nil)
			holdShot(t, m, s)
			if r := replicaOf(t, m, n); r.By() != n || r != replicaOf(t, m, n) {
				t.Errorf("%d: By %d", n, r.By())
			}
		}
	}
	next := do(t, m, 1, write(4, 0, "2"))
	if next.N != o.N+1 || next.S.Time != o.S.Time+1 || next.S.By != 1 {
		t.Errorf("%v behind %v", next, o)
	}
}

// P103: what was joined from outside is on no disk, and goes.
func TestBootForgetsWhatIsNotKept(t *testing.T) {
	m := begun(t, 2)
	l := few(t, m)
	join(t, replicaOf(t, m, 1), l...)
	holdState(t, m, 1, fewState)
	holdErr(t, m.Boot(1), nil)
	holdState(t, m, 1, "")
	holdErr(t, m.Boot(0), nil)
	holdState(t, m, 0, fewState)
}

// gapped: a mesh whose replica 1 has on its disk its operation number 2, and not the first one, which 0 knows.
func gapped(t *testing.T, many int) *mesh.Mesh {
	t.Helper()
	m := begun(t, many)
	first := api.Op{S: api.Stamp{Time: 1, By: 1}, N: 1, Kind: api.Move, Node: 5, Name: "a"}
	join(t, replicaOf(t, m, 1), first)
	join(t, replicaOf(t, m, 0), first)
	do(t, m, 1, makeNode(api.Root, "b"))
	holdState(t, m, 1, "5 in 0 a\n9 in 0 b")
	return m
}

// P103: the error of the Join is told, and then the replica has none; power is on, and the disk keeps what it has.
func TestBootRefused(t *testing.T) {
	m := gapped(t, 2)
	holdErr(t, m.Cut(1, 3), nil)
	holdRefused(t, m, 2, 1, makeNode(api.Root, "c"), api.ErrOff)
	for range 3 {
		holdErr(t, m.Boot(1), api.ErrGap)
		if r := replicaOf(t, m, 1); r.By() != 1 || r.Time() != 0 || len(r.Ops()) != 0 || r.State() != "" {
			t.Errorf("%v", r.Ops())
		}
	}
	// What it lacks comes from the other one: then its disk has all of it.
	holdErr(t, m.Ask(1, 0), nil)
	holdErr(t, m.Deliver(0), nil)
	holdErr(t, m.Deliver(0), nil)
	holdState(t, m, 1, "5 in 0 a")
	holdErr(t, m.Boot(1), nil)
	holdState(t, m, 1, "5 in 0 a\n9 in 0 b")

	// One that has none makes its first one again: another one stands on the disk.
	m = gapped(t, 2)
	holdErr(t, m.Boot(1), api.ErrGap)
	do(t, m, 1, makeNode(api.Root, "x"))
	do(t, m, 1, makeNode(api.Root, "y"))
	holdState(t, m, 1, "5 in 0 x\n9 in 0 y")
	holdFault(t, m.Boot(1), 2, api.ErrExist)
	holdState(t, m, 1, "")
}

// longMark has as many bytes as one may have.
func longMark(name string) api.Op {
	return mark(6, strings.Repeat(name, api.MaxName), strings.Repeat("v", api.MaxName))
}

// crowded: a gapped mesh, where what 2 did (its first mark has a value of so many bytes) was delivered to 1 over and over, until its disk was full: for behind each Boot, which is refused, it is new again. It answers how many bytes are left there.
func crowded(t *testing.T, value int) (*mesh.Mesh, int) {
	t.Helper()
	m := gapped(t, 3)
	left := api.MaxBytes - recordSize(replicaOf(t, m, 1).Ops()[1])
	do(t, m, 2, makeNode(api.Root, "n"))
	do(t, m, 2, mark(6, "m", strings.Repeat("v", value)))
	for range 340 {
		do(t, m, 2, longMark("n"))
	}
	for {
		holdErr(t, m.Boot(1), api.ErrGap)
		for _, o := range replicaOf(t, m, 2).Ops() {
			if size := recordSize(o); size <= left {
				left -= size
				continue
			}
			meet(t, m, 1, 2, api.ErrFull)
			return m, left
		}
		meet(t, m, 1, 2, nil)
	}
}

// meet: the one asks the other one, and both notes are delivered, the second one with this error.
func meet(t *testing.T, m *mesh.Mesh, from, to int, want error) {
	t.Helper()
	holdErr(t, m.Ask(from, to), nil)
	holdErr(t, m.Deliver(0), nil)
	holdErr(t, m.Deliver(0), want)
}

// P101, P102: a full disk. What is made is not joined then. What is delivered is joined, and written until one has an error, which is told: nothing behind it is written, also where there is room for that.
func TestFullDisk(t *testing.T) {
	first, short := len("m|1|1|1|5|0|a|#00000000\n"), len("i|344|2|344|6|0||78#00000000\n")
	tried := 0
	for value := range api.MaxName + 1 {
		m, left := crowded(t, value)
		long := recordSize(replicaOf(t, m, 2).Ops()[200])
		if left < first+short || left-first >= long {
			continue
		}
		tried++
		holdVector(t, m, 1, vector.Vector{0, 0, 342})
		meet(t, m, 1, 0, nil)
		holdErr(t, m.Boot(1), nil)
		holdVector(t, m, 1, vector.Vector{0, 2, 342})

		holdRefused(t, m, 3, 1, longMark("m"), api.ErrFull)
		do(t, m, 2, longMark("m"))
		do(t, m, 2, write(6, 0, "x"))
		meet(t, m, 1, 2, api.ErrFull)
		holdVector(t, m, 1, vector.Vector{0, 2, 344})
		holdErr(t, m.Boot(1), nil)
		holdVector(t, m, 1, vector.Vector{0, 2, 342})

		do(t, m, 1, write(6, 0, "y"))
		holdErr(t, m.Boot(1), nil)
		if text := replicaOf(t, m, 1).Text(6); text != "y" {
			t.Errorf("%q", text)
		}
	}
	if tried == 0 {
		t.Error("no disk was full in such a way")
	}
}
