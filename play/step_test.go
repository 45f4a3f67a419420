package play_test

import (
	"math"
	"slices"
	"strings"
	"testing"

	"concordat/api"
	"concordat/mesh"
	"concordat/plain"
	"concordat/play"
	"concordat/vector"
)

// few things that replica n did: its nodes are Root, a, b in a, c in Trash, d in b; the text of a is xyz.
func few(t *testing.T, n int) (*mesh.Mesh, []int) {
	t.Helper()
	m := begun(t, 3)
	nodes := []int{api.Root, 4 + n, 8 + n, 12 + n, 16 + n}
	for i, into := range []int{api.Root, nodes[1], api.Trash, nodes[2]} {
		do(t, m, n, api.Op{Kind: api.Move, Other: into, Name: "abcd"[i : i+1]})
	}
	for i := range 3 {
		do(t, m, n, api.Op{Kind: api.Insert, Node: nodes[1], Other: i, Value: "xyz"[i : i+1]})
	}
	return m, nodes
}

// lastOf the operations that a replica knows.
func lastOf(t *testing.T, m *mesh.Mesh, n int) api.Op {
	t.Helper()
	l := replicaOf(t, m, n).Ops()
	if len(l) == 0 {
		t.Fatalf("%d knows nothing", n)
	}
	return l[len(l)-1]
}

// holdRefused: the step has this answer, and nothing changes.
func holdRefused(t *testing.T, kind, n, k, code int) {
	t.Helper()
	m, _ := few(t, n)
	same, _ := few(t, n)
	holdRun(t, m, []int{number(kind, n, k)}, code)
	holdSame(t, m, same, 3)
}

// holdMade: the step makes this operation (its stamp and number aside), on replica n alone.
func holdMade(t *testing.T, kind, n, k int, want func(nodes []int) api.Op) {
	t.Helper()
	m, nodes := few(t, n)
	holdRun(t, m, []int{number(kind, n, k)}, 0)
	o := want(append(nodes, 32+n))
	o.S, o.N = api.Stamp{Time: 8, By: n}, 8
	if got := lastOf(t, m, n); got != o {
		t.Errorf("kind %d, k %d: %v, not %v", kind, k, got, o)
	}
	for other := range 3 {
		if other != n {
			holdState(t, m, other, "")
		}
	}
	// It went to the disk, too.
	m.Boot(n)
	if got := lastOf(t, m, n); got != o {
		t.Errorf("kind %d, k %d: %v is kept, not %v", kind, k, got, o)
	}
}

// moved is where a node goes: nodes by their numbers among those of few, 5 the new one, trash Trash.
type moved struct {
	k, node, into int
	name          string
}

const trash = -1

func holdMoved(t *testing.T, kind int, l []moved) {
	t.Helper()
	for _, x := range l {
		for n := range 3 {
			holdMade(t, kind, n, x.k, func(nodes []int) api.Op {
				into := api.Trash
				if x.into != trash {
					into = nodes[x.into]
				}
				return api.Op{Kind: api.Move, Node: nodes[x.node], Other: into, Name: x.name}
			})
		}
	}
}

// P110: 0, 1.
func TestMake(t *testing.T) {
	for kind := range 2 {
		holdMoved(t, kind, []moved{
			{0, 5, 0, "a"}, {1, 5, 1, "b"}, {2, 5, 2, "c"}, {3, 5, 3, "d"}, {4, 5, 4, "a"}, {5, 5, 0, "b"}, {6, 5, 1, "c"},
			{7, 5, 2, "d"}, {8, 5, 3, "a"}, {40, 5, 0, "a"}, {999, 5, 4, "d"}, {1 << 40, 5, 1, "a"},
		})
	}
}

// P110: 2. Root is among the nodes: Do of a Move with Node 0 is a Make (P101).
func TestMove(t *testing.T) {
	holdMoved(t, 2, []moved{
		{8, 1, 3, "a"}, {10, 1, 0, "c"}, {13, 1, 3, "b"}, {16, 2, 1, "a"}, {20, 2, 0, "a"}, {27, 3, 2, "d"}, {26, 3, 1, "c"}, {35, 4, 0, "d"},
	})
	holdMoved(t, 2, []moved{{0, 5, 0, "a"}, {3, 5, 3, "d"}, {7, 5, 2, "d"}, {40, 5, 0, "a"}, {46, 5, 1, "c"}})
	holdMoved(t, 2, []moved{{48, 1, 3, "a"}, {50, 1, 0, "c"}, {88, 1, 3, "a"}})
	// Into itself, or into what lies in it.
	for _, k := range []int{9, 11, 12, 14, 17, 19, 28, 34, 39} {
		for n := range 3 {
			holdRefused(t, 2, n, k, 10)
		}
	}
}

// P110: 3.
func TestMoveIntoTrash(t *testing.T) {
	holdMoved(t, 3, []moved{{8, 1, trash, "t"}, {9, 1, trash, "t"}, {15, 1, trash, "t"}, {16, 2, trash, "t"}, {24, 3, trash, "t"}, {39, 4, trash, "t"}, {48, 1, trash, "t"}})
	holdMoved(t, 3, []moved{{0, 5, trash, "t"}, {7, 5, trash, "t"}, {40, 5, trash, "t"}})
}

// holdText of a node (by its number among those of few) behind a step.
func holdText(t *testing.T, kind, k, node int, want string) {
	t.Helper()
	for n := range 3 {
		m, nodes := few(t, n)
		holdRun(t, m, []int{number(kind, n, k)}, 0)
		for i, id := range nodes {
			text := ""
			if i == 1 {
				text = "xyz"
			}
			if i == node {
				text = want
			}
			if got := replicaOf(t, m, n).Text(id); got != text {
				t.Errorf("kind %d, k %d: text of %d: %q, not %q", kind, k, id, got, text)
			}
		}
	}
}

// P110: 4, 5, 6.
func TestInsert(t *testing.T) {
	for kind := 4; kind <= 6; kind++ {
		for _, x := range []struct {
			k, node int
			text    string
		}{
			{8, 1, "xyzi"}, {10, 1, "kxyz"}, {11, 1, "xlyz"}, {12, 1, "xymz"}, {13, 1, "xyzn"}, {15, 1, "pxyz"},
			{20, 2, "u"}, {25, 3, "z"}, {30, 3, "e"}, {35, 4, "j"}, {50, 1, "yxyz"}, {51, 1, "xzyz"}, {52, 1, "xyaz"}, {53, 1, "xyzb"}, {60, 2, "i"},
		} {
			holdText(t, kind, x.k, x.node, x.text)
		}
		// No node, or no such place in its text.
		for _, k := range []int{0, 1, 5, 7, 9, 14, 16, 17, 24, 26, 36, 40, 45} {
			for n := range 3 {
				holdRefused(t, kind, n, k, 6)
			}
		}
	}
}

// P110: 7.
func TestDelete(t *testing.T) {
	for _, x := range []struct {
		k    int
		text string
	}{{10, "yz"}, {11, "xz"}, {12, "xy"}, {15, "yz"}, {50, "yz"}, {51, "xz"}, {52, "xy"}} {
		holdText(t, 7, x.k, 1, x.text)
	}
	for _, k := range []int{0, 5, 8, 9, 13, 14, 20, 25, 35, 40, 53, 54} {
		for n := range 3 {
			holdRefused(t, 7, n, k, 6)
		}
	}
}

// P110: 8.
func TestSet(t *testing.T) {
	for _, x := range []struct {
		k, node int
		value   string
	}{{8, 1, "v8"}, {9, 1, "v9"}, {10, 1, "v0"}, {15, 1, "v5"}, {19, 2, "v9"}, {30, 3, "v0"}, {37, 4, "v7"}, {1008, 1, "v8"}, {1013, 1, "v3"}} {
		for n := range 3 {
			holdMade(t, 8, n, x.k, func(nodes []int) api.Op {
				return api.Op{Kind: api.Set, Node: nodes[x.node], Name: "m", Value: x.value}
			})
		}
	}
	for _, k := range []int{0, 7, 40, 47, 1000} {
		for n := range 3 {
			holdRefused(t, 8, n, k, 6)
		}
	}
}

// P110: the nodes are those of n alone, by their numbers, whoever made them, and wherever they lie now.
func TestNodes(t *testing.T) {
	m := begun(t, 3)
	do(t, m, 2, api.Op{Kind: api.Move, Name: "late"})
	do(t, m, 1, api.Op{Kind: api.Move, Name: "first"})
	do(t, m, 2, api.Op{Kind: api.Move, Other: 6, Name: "in"})
	m.Calm()
	do(t, m, 1, api.Op{Kind: api.Move, Node: 5, Other: 10, Name: "deep"})
	do(t, m, 0, api.Op{Kind: api.Move, Name: "own"})
	// 0: Root, 5, 6, 10, 12. 1: Root, 5, 6, 10.
	holdRun(t, m, []int{number(0, 0, 4), number(0, 1, 4), number(8, 0, 8*4), number(8, 1, 8*6), number(8, 2, 8*3)}, 0, 0, 0, 0, 0)
	holdState(t, m, 0, "5 in 0 first\n6 in 0 late\n10 in 6 in\n12 in 0 own\n16 in 12 a\n12 mark m v2")
	holdState(t, m, 1, "5 in 10 deep\n6 in 0 late\n10 in 6 in\n17 in 0 a\n5 mark m v8")
	holdState(t, m, 2, "5 in 0 first\n6 in 0 late\n10 in 6 in\n10 mark m v4")
}

// P110: 9, 10, 11.
func TestAsk(t *testing.T) {
	for _, x := range []struct{ kind, from, to int }{{9, 0, 1}, {9, 1, 2}, {9, 2, 0}, {10, 0, 1}, {10, 1, 2}, {10, 2, 0}, {11, 0, 2}, {11, 1, 0}, {11, 2, 1}} {
		for _, k := range []int{0, 1, 7, 1000} {
			m, _ := few(t, x.from)
			holdRun(t, m, []int{number(x.kind, x.from, k)}, 0)
			have := vector.Vector{}
			have[x.from] = 7
			holdFlying(t, m, mesh.Note{From: x.from, To: x.to, Ask: true, Have: have})
		}
	}
}

func holdFlying(t *testing.T, m *mesh.Mesh, want ...mesh.Note) {
	t.Helper()
	same := func(a, b mesh.Note) bool {
		return a.From == b.From && a.To == b.To && a.Ask == b.Ask && a.Have == b.Have && slices.Equal(a.Ops, b.Ops)
	}
	if got := m.Flying(); !slices.EqualFunc(got, want, same) {
		t.Fatalf("flying: %v, not %v", got, want)
	}
}

// asks: each asks each other one, and nobody has anything: six notes, of which no two are the same.
func asks(t *testing.T, many int) (*mesh.Mesh, []mesh.Note) {
	t.Helper()
	m := begun(t, 3)
	l := []mesh.Note{{From: 0, To: 1}, {From: 1, To: 2}, {From: 2, To: 0}, {From: 0, To: 2}, {From: 1, To: 0}, {From: 2, To: 1}}[:many]
	for i := range l {
		l[i].Ask = true
		if err := m.Ask(l[i].From, l[i].To); err != nil {
			t.Fatal(err)
		}
	}
	return m, l
}

// holdGone: which note is gone behind a step (of few that fly: perhaps none).
func holdGone(t *testing.T, kind, k, at int) {
	t.Helper()
	for many := range 7 {
		for n := range 3 {
			m, l := asks(t, many)
			if at >= many {
				holdRun(t, m, []int{number(kind, n, k)}, 6)
				holdFlying(t, m, l...)
				continue
			}
			holdRun(t, m, []int{number(kind, n, k)}, 0)
			holdFlying(t, m, slices.Delete(l, at, at+1)...)
		}
	}
}

// P110: 12, by k modulo 4.
func TestDeliver(t *testing.T) {
	for _, x := range []struct{ k, at int }{{0, 0}, {1, 1}, {2, 2}, {3, 3}, {4, 0}, {5, 1}, {10, 2}, {1003, 3}} {
		holdGone(t, 12, x.k, x.at)
	}
}

// P110: 12: what is asked for is sent back, and joined.
func TestDeliverOperations(t *testing.T) {
	m, _ := few(t, 2)
	if err := m.Ask(1, 2); err != nil {
		t.Fatal(err)
	}
	holdRun(t, m, []int{number(12, 0, 4)}, 0)
	holdFlying(t, m, mesh.Note{From: 2, To: 1, Ops: replicaOf(t, m, 2).Ops()})
	holdRun(t, m, []int{number(12, 2, 0), number(12, 2, 0)}, 0, 6)
	holdState(t, m, 1, replicaOf(t, m, 2).State())
	holdState(t, m, 0, "")
}

// P110: 13: Drop, where k is even.
func TestDrop(t *testing.T) {
	for _, x := range []struct{ k, at int }{{0, 0}, {2, 1}, {4, 2}, {6, 3}, {8, 0}, {10, 1}, {1006, 3}} {
		holdGone(t, 13, x.k, x.at)
	}
	// It is dropped, not delivered.
	m, _ := few(t, 0)
	holdRun(t, m, []int{number(11, 1, 0), number(13, 0, 0), number(12, 0, 0)}, 0, 0, 6)
	holdState(t, m, 1, "")
}

// P110: 13: Twice, where k is odd.
func TestTwice(t *testing.T) {
	for _, x := range []struct{ k, at int }{{1, 0}, {3, 1}, {5, 2}, {7, 3}, {9, 0}, {11, 1}, {1007, 3}} {
		for many := range 7 {
			m, l := asks(t, many)
			if x.at >= many {
				holdRun(t, m, []int{number(13, many%3, x.k)}, 6)
				holdFlying(t, m, l...)
				continue
			}
			holdRun(t, m, []int{number(13, many%3, x.k)}, 0)
			holdFlying(t, m, append(l, l[x.at])...)
		}
	}
}

// P110: no more than MaxFlying fly.
func TestFullOfNotes(t *testing.T) {
	m := begun(t, 3)
	script := slices.Repeat([]int{number(9, 0, 0)}, api.MaxFlying)
	script = append(script, number(9, 0, 0), number(10, 1, 0), number(11, 2, 0), number(13, 0, 1), number(13, 0, 2), number(13, 0, 1), number(9, 0, 0))
	holdRun(t, m, script, append(make([]int, api.MaxFlying), 8, 8, 8, 8, 0, 0, 8)...)
}

// P110: 14: the disk of n, and no other one, takes k modulo 200 bytes.
func TestCut(t *testing.T) {
	const record = len("m|1|0|1|4|0|a|#00000000\n")
	for _, x := range []struct{ k, bytes int }{{0, 0}, {1, 1}, {record - 1, record - 1}, {record, record}, {record + 1, record + 1}, {199, 199}, {200, 0}, {200 + record - 1, record - 1}, {200 + record, record}, {2000, 0}, {2199, 199}} {
		for n := range 3 {
			m, same := begun(t, 3), begun(t, 3)
			holdRun(t, m, []int{number(14, n, x.k)}, 0)
			same.Cut(n, x.bytes)
			for range 10 {
				for by := range 3 {
					want := 0
					if by == n && len(replicaOf(t, same, n).Ops())+1 > x.bytes/record {
						want = 11
					}
					holdRun(t, m, []int{number(0, by, 0)}, want)
					_, err := same.Do(by, api.Op{Kind: api.Move, Name: "a"})
					if code, _ := plain.Code(err); code != want {
						t.Fatalf("%d bytes: %v, not %d", x.bytes, err, want)
					}
				}
			}
			holdSame(t, m, same, 3)
		}
	}
}

// P110: 14: where power has failed already, it is told.
func TestCutAgain(t *testing.T) {
	m := begun(t, 3)
	holdRun(t, m, []int{number(14, 1, 7), number(14, 1, 0), number(0, 1, 0), number(14, 1, 0), number(14, 1, 199), number(14, 0, 0)}, 0, 0, 11, 11, 11, 0)
}

// P110: 15: what was not kept is forgotten, and power is there again.
func TestBoot(t *testing.T) {
	for n := range 3 {
		m, _ := few(t, (n+1)%3)
		m.Ask(n, (n+1)%3)
		holdRun(t, m, []int{number(12, 0, 0), number(14, n, 80), number(12, 0, 0), number(0, n, 0), number(15, n, 5), number(14, n, 199), number(0, n, 0)}, 0, 0, 11, 11, 0, 0, 0)
		r := replicaOf(t, m, n)
		if l := r.Ops(); len(l) != 4 || l[3].S != (api.Stamp{Time: 4, By: n}) {
			t.Errorf("%d knows %v", n, l)
		}
		for other := range 3 {
			if lines := strings.Count(replicaOf(t, m, other).State(), "\n"); other == (n+1)%3 && lines != 4 || other == (n+2)%3 && lines != 0 {
				t.Errorf("%d: %q", other, replicaOf(t, m, other).State())
			}
		}
	}
}

// P110: errors that Join answers as a Fault, or bare, are told by their numbers.
func TestDeliverErrors(t *testing.T) {
	// 1 knew an operation of 0 that its disk did not keep, and asked for what comes behind it.
	m := begun(t, 3)
	holdRun(t, m, []int{0, number(14, 1, 0), number(11, 1, 0), 12, 12, number(11, 1, 0), 0, 12, number(15, 1, 0), 12, 12}, 0, 0, 0, 0, 11, 0, 0, 0, 0, 9, 6)
	// 1 was told, from outside, that 0 did something else.
	m = begun(t, 3)
	holdRun(t, m, []int{0, number(11, 1, 0), 12}, 0, 0, 0)
	if _, err := replicaOf(t, m, 1).Join([]api.Op{{S: api.Stamp{Time: 1}, N: 1, Kind: api.Move, Node: 4, Name: "other"}}); err != nil {
		t.Fatal(err)
	}
	holdRun(t, m, []int{12, 12}, 7, 6)
}

// P110: a replica that the mesh does not have is told, by each step that names it.
func TestFewerReplicas(t *testing.T) {
	for many := 1; many < 3; many++ {
		for kind := range 16 {
			for n := range 3 {
				other := map[int]int{9: (n + 1) % 3, 10: (n + 1) % 3, 11: (n + 2) % 3}[kind]
				want := 0
				switch {
				case kind == 12 || kind == 13:
					want = 6
				case n >= many || other >= many:
					want = 2
				case kind >= 4 && kind <= 8: // of Root
					want = 6
				}
				for _, k := range []int{0, 8, 41, 200} {
					holdRun(t, begun(t, many), []int{number(kind, n, k)}, want)
				}
			}
		}
	}
}

// P110: of four replicas the first three play.
func TestFourReplicas(t *testing.T) {
	m := begun(t, 4)
	do(t, m, 3, api.Op{Kind: api.Move, Name: "n"})
	x := row(9)
	play.Run(m, x.script(1000))
	holdState(t, m, 3, "7 in 0 n")
	for _, note := range m.Flying() {
		if note.From == 3 || note.To == 3 {
			t.Errorf("%v", note)
		}
	}
	if l := replicaOf(t, m, 3).Ops(); len(l) != 1 {
		t.Errorf("3 knows %v", l)
	}
}

// P1: the greatest numbers there are.
func TestGreatest(t *testing.T) {
	for back := range 200 {
		v := math.MaxInt - back
		m, same := begun(t, 3), begun(t, 3)
		got := play.Run(m, []int{0, 16, 32, 9, 25, 41, v})
		want := []int{0, 0, 0, 0, 0, 0, 0}
		for i, w := range []int{0, 16, 32, 9, 25, 41, v} {
			want[i] = byWords(same, w)
		}
		if !slices.Equal(got, want) {
			t.Fatalf("%d: %v, not %v", v, got, want)
		}
		holdSame(t, m, same, 3)
	}
}
