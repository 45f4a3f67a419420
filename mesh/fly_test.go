package mesh_test

import (
	"slices"
	"strings"
	"testing"

	"concordat/api"
	"concordat/mesh"
	"concordat/vector"
)

// few operations of replica 0: a node with two letters and a mark.
func few(t *testing.T, m *mesh.Mesh) []api.Op {
	t.Helper()
	var l []api.Op
	for _, o := range []api.Op{makeNode(api.Root, "a"), write(4, 0, "y"), write(4, 0, "x"), mark(4, "m", "v")} {
		l = append(l, do(t, m, 0, o))
	}
	return l
}

const fewState = "4 in 0 a\n4 text xy\n4 mark m v"

// P101: an Ask flies, behind all others, with the Vector of from as it is then.
func TestAsk(t *testing.T) {
	m := begun(t, 4)
	holdErr(t, m.Ask(0, 3), nil)
	few(t, m)
	holdErr(t, m.Ask(0, 1), nil)
	do(t, m, 3, makeNode(api.Root, "b"))
	holdErr(t, m.Ask(3, 0), nil)
	holdErr(t, m.Ask(0, 3), nil)
	holdErr(t, m.Ask(2, 1), nil)
	holdErr(t, m.Ask(0, 3), nil)
	holdFlying(t, m, ask(0, 3), ask(0, 1, 4), ask(3, 0, 0, 0, 0, 1), ask(0, 3, 4), ask(2, 1), ask(0, 3, 4))
	holdState(t, m, 0, fewState)
	holdState(t, m, 3, "7 in 0 b")
}

// P101: no such one, or the same ones; ahead of ErrFull.
func TestAskOutOfBounds(t *testing.T) {
	for many := 1; many <= api.Replicas; many++ {
		m := begun(t, many)
		for _, fill := range []int{0, api.MaxFlying} {
			for range fill {
				m.Ask(0, 1)
			}
			s := shot(t, m, many)
			for n := range many {
				holdErr(t, m.Ask(n, n), api.ErrBound)
				for _, x := range append(farOff(), many) {
					holdErr(t, m.Ask(n, x), api.ErrBound)
					holdErr(t, m.Ask(x, n), api.ErrBound)
					holdErr(t, m.Ask(x, x), api.ErrBound)
				}
			}
			holdShot(t, m, s)
		}
	}
}

// P101, P102: MaxFlying may fly, and not one more.
func TestMaxFlying(t *testing.T) {
	m := begun(t, 3)
	var want []mesh.Note
	for i := range api.MaxFlying {
		holdErr(t, m.Ask(i%3, (i+1)%3), nil)
		want = append(want, ask(i%3, (i+1)%3))
	}
	for range 2 {
		holdErr(t, m.Ask(1, 2), api.ErrFull)
		for at := range api.MaxFlying {
			holdErr(t, m.Twice(at), api.ErrFull)
		}
		holdFlying(t, m, want...)
	}
	// One goes, and there is room for one.
	holdErr(t, m.Drop(7), nil)
	holdErr(t, m.Twice(0), nil)
	holdErr(t, m.Twice(0), api.ErrFull)
	holdErr(t, m.Ask(1, 2), api.ErrFull)
	want = append(slices.Delete(want, 7, 8), want[0])
	holdFlying(t, m, want...)
}

// P102: an Ask that is delivered flies no more: there is room for what is sent back, also where MaxFlying flew.
func TestAnswersWhereManyFly(t *testing.T) {
	m := begun(t, 2)
	l := few(t, m)
	var want []mesh.Note
	for range api.MaxFlying {
		holdErr(t, m.Ask(1, 0), nil)
		want = append(want, ask(1, 0))
	}
	for range 3 {
		holdErr(t, m.Deliver(0), nil)
		want = append(want[1:], tell(0, 1, l...))
		holdFlying(t, m, want...)
	}
}

// P102: an Ask is answered by the Diff to what it had, behind all others, in new memory.
func TestDeliverAnAsk(t *testing.T) {
	m := begun(t, 3)
	l := few(t, m)
	holdErr(t, m.Ask(1, 0), nil)
	holdErr(t, m.Ask(2, 1), nil)
	holdErr(t, m.Deliver(0), nil)
	holdFlying(t, m, ask(2, 1), tell(0, 1, l...))
	holdState(t, m, 1, "")

	// What was asked ahead of it is answered as it was asked, with what To knows when it comes there.
	holdErr(t, m.Ask(1, 0), nil)
	holdErr(t, m.Deliver(1), nil)
	holdState(t, m, 1, fewState)
	more := do(t, m, 0, write(4, 2, "z"))
	holdErr(t, m.Deliver(1), nil)
	holdFlying(t, m, ask(2, 1), tell(0, 1, append(l, more)...))
	holdErr(t, m.Ask(1, 0), nil)
	holdErr(t, m.Deliver(2), nil)
	holdFlying(t, m, ask(2, 1), tell(0, 1, append(l, more)...), tell(0, 1, more))

	// 2 is told by 1 what 0 did.
	holdErr(t, m.Deliver(0), nil)
	holdFlying(t, m, tell(0, 1, append(l, more)...), tell(0, 1, more), tell(1, 2, l...))
	holdErr(t, m.Deliver(2), nil)
	holdState(t, m, 2, fewState)
}

// P102: the Diff is by stamp, of all replicas.
func TestDeliverAnAskByStamp(t *testing.T) {
	m := begun(t, 3)
	var l []api.Op
	for range 4 {
		for n := range 2 {
			l = append(l, do(t, m, n, makeNode(api.Root, "a")))
		}
	}
	holdErr(t, m.Ask(0, 1), nil)
	holdErr(t, m.Deliver(0), nil)
	holdErr(t, m.Deliver(0), nil)
	holdErr(t, m.Ask(2, 0), nil)
	holdErr(t, m.Deliver(0), nil)
	holdFlying(t, m, tell(0, 2, l...))
}

// P102: nothing is sent back where there is nothing to tell, whatever From has beyond that.
func TestDeliverAnAskWithoutAnAnswer(t *testing.T) {
	m := begun(t, 2)
	holdErr(t, m.Ask(1, 0), nil)
	holdErr(t, m.Deliver(0), nil)
	holdFlying(t, m)
	few(t, m)
	holdErr(t, m.Ask(0, 1), nil)
	holdErr(t, m.Deliver(0), nil)
	holdFlying(t, m)
	holdState(t, m, 1, "")
}

// P102: operations are joined: again, too, and when they are late.
func TestDeliverOperations(t *testing.T) {
	m := begun(t, 2)
	few(t, m)
	holdErr(t, m.Ask(1, 0), nil)
	holdErr(t, m.Deliver(0), nil)
	holdErr(t, m.Twice(0), nil)
	holdErr(t, m.Twice(0), nil)
	for range 2 {
		holdErr(t, m.Deliver(1), nil)
		holdState(t, m, 1, fewState)
	}
	do(t, m, 0, write(4, 2, "z"))
	do(t, m, 1, write(4, 2, "!"))
	holdErr(t, m.Deliver(0), nil)
	holdFlying(t, m)
	holdState(t, m, 1, "4 in 0 a\n4 text xy!\n4 mark m v")
	holdState(t, m, 0, "4 in 0 a\n4 text xyz\n4 mark m v")
	if !m.Calm() {
		t.Error("not calm")
	}
	holdState(t, m, 0, "4 in 0 a\n4 text xy!z\n4 mark m v")
}

// P102: those that are new go to the disk: they are there behind Boot, once.
func TestDeliverKeeps(t *testing.T) {
	m := begun(t, 2)
	few(t, m)
	for range 3 {
		holdErr(t, m.Ask(1, 0), nil)
		holdErr(t, m.Deliver(0), nil)
		for len(m.Flying()) > 0 {
			holdErr(t, m.Twice(0), nil)
			holdErr(t, m.Deliver(0), nil)
			holdErr(t, m.Deliver(0), nil)
		}
		holdErr(t, m.Boot(1), nil)
		holdState(t, m, 1, replicaOf(t, m, 0).State())
		do(t, m, 0, write(4, 0, "z"))
	}
}

// P102: a cut in what is delivered: all is joined, and what is on the disk ahead of the cut is kept, by stamp.
func TestDeliverWithoutPower(t *testing.T) {
	all := recordsOf(few(t, begun(t, 1)))
	for cut := range len(all) + 1 {
		m := begun(t, 2)
		few(t, m)
		holdErr(t, m.Cut(1, cut), nil)
		holdErr(t, m.Ask(1, 0), nil)
		holdErr(t, m.Deliver(0), nil)
		holdErr(t, m.Twice(0), nil)
		want := api.ErrOff
		if cut == len(all) {
			want = nil
		}
		holdErr(t, m.Deliver(0), want)
		holdState(t, m, 1, fewState)

		// It is known now, though not kept: nothing of it is new any more.
		holdErr(t, m.Deliver(0), nil)
		holdFlying(t, m)
		holdErr(t, m.Boot(1), nil)
		holdVector(t, m, 1, vector.Vector{strings.Count(all[:cut], "\n")})
	}
}

// P102: the replica's error is told as it is, the note is gone, and nothing is joined or kept.
func TestDeliverRefused(t *testing.T) {
	// What 1 lost by a cut is the ground of what flies.
	m := begun(t, 2)
	do(t, m, 0, makeNode(api.Root, "a"))
	holdErr(t, m.Cut(1, 0), nil)
	holdErr(t, m.Ask(1, 0), nil)
	holdErr(t, m.Deliver(0), nil)
	holdErr(t, m.Deliver(0), api.ErrOff)
	holdErr(t, m.Ask(1, 0), nil)
	do(t, m, 0, write(4, 0, "x"))
	holdErr(t, m.Deliver(0), nil)
	holdErr(t, m.Boot(1), nil)
	holdErr(t, m.Deliver(0), api.ErrGap)
	holdFlying(t, m)
	holdState(t, m, 1, "")
	holdErr(t, m.Boot(1), nil)
	holdState(t, m, 1, "")

	// Two operations of one number, by a Join from outside.
	m = begun(t, 3)
	l := few(t, m)
	other := l[1]
	other.Value = "?"
	join(t, replicaOf(t, m, 2), l[0], other)
	holdErr(t, m.Ask(1, 0), nil)
	holdErr(t, m.Ask(1, 2), nil)
	holdErr(t, m.Ask(0, 2), nil)
	for range 2 {
		holdErr(t, m.Deliver(0), nil)
	}
	holdErr(t, m.Deliver(2), nil)
	holdFault(t, m.Deliver(1), 1, api.ErrExist)
	holdFlying(t, m, ask(0, 2, 4))
	holdState(t, m, 1, "4 in 0 a\n4 text ?")
	holdErr(t, m.Boot(1), nil)
	holdState(t, m, 1, "4 in 0 a\n4 text ?")
}

// P102: where there would be more than MaxOps, none is joined.
func TestDeliverTooMany(t *testing.T) {
	m := begun(t, 2)
	for n := range 2 {
		node := do(t, m, n, makeNode(api.Root, "a")).Node
		for range api.MaxOps/2 - n {
			do(t, m, n, write(node, 0, "x"))
		}
	}
	holdVector(t, m, 0, vector.Vector{api.MaxOps/2 + 1})
	holdVector(t, m, 1, vector.Vector{0, api.MaxOps / 2})
	s := shot(t, m, 2)
	for n := range 2 {
		holdErr(t, m.Ask(n, 1-n), nil)
		holdErr(t, m.Deliver(0), nil)
		holdErr(t, m.Deliver(0), api.ErrFull)
	}
	holdShot(t, m, s)
}

// P102: there is none of this number: ahead of all.
func TestNoSuchNote(t *testing.T) {
	for _, many := range []int{0, 1, 3, api.MaxFlying} {
		m := begun(t, 2)
		few(t, m)
		for range many {
			holdErr(t, m.Ask(1, 0), nil)
		}
		s := shot(t, m, 2)
		for _, at := range append(farOff(), many, many+1) {
			holdErr(t, m.Deliver(at), api.ErrNone)
			holdErr(t, m.Drop(at), api.ErrNone)
			holdErr(t, m.Twice(at), api.ErrNone)
		}
		holdShot(t, m, s)
	}
}

// notesOf a mesh in which five fly, asks and operations.
func notesOf(t *testing.T) (*mesh.Mesh, []mesh.Note) {
	t.Helper()
	m := begun(t, 3)
	few(t, m)
	for _, x := range [][2]int{{1, 0}, {2, 1}, {2, 0}, {0, 1}, {1, 2}} {
		holdErr(t, m.Ask(x[0], x[1]), nil)
	}
	holdErr(t, m.Deliver(0), nil)
	do(t, m, 0, write(4, 0, "z"))
	holdErr(t, m.Deliver(1), nil)
	return m, m.Flying()
}

// P102: a note that is dropped does nothing.
func TestDrop(t *testing.T) {
	_, l := notesOf(t)
	for at := range l {
		m, _ := notesOf(t)
		s := shot(t, m, 3)
		s.flying = slices.Delete(slices.Clone(l), at, at+1)
		holdErr(t, m.Drop(at), nil)
		holdShot(t, m, s)
	}
	m, _ := notesOf(t)
	for range l {
		holdErr(t, m.Drop(0), nil)
	}
	holdErr(t, m.Drop(0), api.ErrNone)
	holdFlying(t, m)
}

// P102: a note flies once more, behind all others; each of the two goes by itself.
func TestTwice(t *testing.T) {
	_, l := notesOf(t)
	for at := range l {
		m, _ := notesOf(t)
		s := shot(t, m, 3)
		s.flying = append(slices.Clone(l), l[at])
		holdErr(t, m.Twice(at), nil)
		holdShot(t, m, s)
		holdErr(t, m.Drop(at), nil)
		s.flying = slices.Delete(s.flying, at, at+1)
		holdShot(t, m, s)
		holdErr(t, m.Twice(len(l)-1), nil)
		s.flying = append(s.flying, l[at])
		holdShot(t, m, s)
	}
}

// P4: what Flying answers is new memory, also of two that are the same note.
func TestFlyingIsNewMemory(t *testing.T) {
	m, _ := notesOf(t)
	for at := range m.Flying() {
		holdErr(t, m.Twice(at), nil)
	}
	want := m.Flying()
	got := m.Flying()
	for i := range got {
		for k := range got[i].Ops {
			got[i].Ops[k] = api.Op{}
		}
		_ = append(got[i].Ops, api.Op{Kind: 'x'})
		got[i].From, got[i].Have = 9, vector.Vector{9}
		if !sameNotes(got[i+1:], want[i+1:]) {
			t.Fatalf("%d shows in another one", i)
		}
	}
	_ = append(got, mesh.Note{From: 9})
	holdFlying(t, m, want...)
	for range want {
		holdErr(t, m.Deliver(0), nil)
	}
	for len(m.Flying()) > 0 {
		holdErr(t, m.Deliver(0), nil)
	}
	for n := range 3 {
		holdState(t, m, n, "4 in 0 a\n4 text zxy\n4 mark m v")
	}
}

// P4: what Flying told stays as it is.
func TestFlyingStays(t *testing.T) {
	m, _ := notesOf(t)
	got, want := m.Flying(), m.Flying()
	holdErr(t, m.Drop(0), nil)
	holdErr(t, m.Twice(1), nil)
	m.Calm()
	for range api.MaxFlying {
		holdErr(t, m.Ask(0, 1), nil)
	}
	if !sameNotes(got, want) {
		t.Errorf("%v, not %v", got, want)
	}
}
