package play_test

import (
	"math"
	"reflect"
	"slices"
	"sync"
	"testing"

	"concordat/api"
	"concordat/mesh"
	"concordat/play"
	"concordat/replica"
)

// The face that is given: a changed signature does not compile.
var (
	_ func(m *mesh.Mesh, script []int) []int = play.Run
	_ func(lists [][]api.Op) (string, error) = play.Merge
)

func begun(t *testing.T, many int) *mesh.Mesh {
	t.Helper()
	m, err := mesh.New(many)
	if err != nil {
		t.Fatal(err)
	}
	return m
}

func replicaOf(t *testing.T, m *mesh.Mesh, n int) *replica.Replica {
	t.Helper()
	r, err := m.Replica(n)
	if err != nil {
		t.Fatal(err)
	}
	return r
}

func do(t *testing.T, m *mesh.Mesh, n int, o api.Op) {
	t.Helper()
	if _, err := m.Do(n, o); err != nil {
		t.Fatalf("Do(%d, %v): %v", n, o, err)
	}
}

// number of a step.
func number(kind, n, k int) int { return 16*(3*k+n) + kind }

// holdRun: a script has these answers.
func holdRun(t *testing.T, m *mesh.Mesh, script []int, want ...int) {
	t.Helper()
	if got := play.Run(m, script); !slices.Equal(got, want) {
		t.Fatalf("Run(%v): %v, not %v", script, got, want)
	}
}

func holdState(t *testing.T, m *mesh.Mesh, n int, want string) {
	t.Helper()
	if s := replicaOf(t, m, n).State(); s != want {
		t.Fatalf("state of %d: %q, not %q", n, s, want)
	}
}

// told is all that a mesh of so many tells without a change.
type told struct {
	ops    [][]api.Op
	states []string
	flying []mesh.Note
}

func tell(m *mesh.Mesh, many int) told {
	x := told{flying: m.Flying()}
	for n := range many {
		r, _ := m.Replica(n)
		x.ops = append(x.ops, r.Ops())
		x.states = append(x.states, r.State())
	}
	return x
}

// holdSame: two meshes of so many can't be told from one another, also by what their disks keep: so they are booted, and of no use behind it.
func holdSame(t *testing.T, a, b *mesh.Mesh, many int) {
	t.Helper()
	if x, y := tell(a, many), tell(b, many); !reflect.DeepEqual(x, y) {
		t.Fatalf("%v, not %v", x, y)
	}
	for n := range many {
		if x, y := a.Cut(n, 0), b.Cut(n, 0); x != y {
			t.Fatalf("cut of %d: %v, not %v", n, x, y)
		}
		a.Boot(n)
		b.Boot(n)
	}
	if x, y := tell(a, many), tell(b, many); !reflect.DeepEqual(x, y) {
		t.Fatalf("booted: %v, not %v", x, y)
	}
}

// P110: of no number no answer.
func TestRunNothing(t *testing.T) {
	for _, script := range [][]int{nil, {}, make([]int, 0, 3)} {
		m := begun(t, 3)
		holdRun(t, m, script)
		holdSame(t, m, begun(t, 3), 3)
	}
}

// P110: below 0 is -1, and nothing is done.
func TestRunBelowNothing(t *testing.T) {
	m := begun(t, 3)
	for _, v := range []int{-1, -2, -15, -16, -17, -48, -1000, math.MinInt32, math.MinInt + 1, math.MinInt} {
		holdRun(t, m, []int{v}, -1)
		holdRun(t, m, []int{v, v}, -1, -1)
	}
	holdRun(t, m, []int{-1, 0, math.MinInt, 7, -3}, -1, 0, -1, 6, -1)
	holdState(t, m, 0, "4 in 0 a")
}

// P110: a script by hand, whose numbers are worked out by the words.
func TestRunByHand(t *testing.T) {
	m := begun(t, 3)
	holdRun(t, m, []int{
		0,    // 0 makes a in Root: node 4
		1201, // q 75, k 25: 0 makes b in 4: node 8
		1204, // k 25: y is number 3 modulo 3: Root has no letters
		388,  // q 24, k 8: letter i in 4 at 3: there is none
		484,  // q 30, k 10: letter k in 4 at 0
		536,  // q 33, k 11: mark m of 4: v1
		25,   // q 1: 1 asks 2
		27,   // q 1: 1 asks 0
		60,   // q 3, k 1: note number 1 goes: 0 sends all
		60,   // and 1 joins it
		16,   // 1 makes a in Root: node 21
		779,  // q 48, k 16: 0 asks 2
		12,   // 1 asked 2, which has nothing
		13,   // what 0 asked is dropped
		13,   // there is none
	}, 0, 0, 6, 6, 0, 0, 0, 0, 0, 0, 0, 0, 0, 0, 6)
	holdState(t, m, 0, "4 in 0 a\n8 in 4 b\n4 text k\n4 mark m v1")
	holdState(t, m, 1, "4 in 0 a\n8 in 4 b\n21 in 0 a\n4 text k\n4 mark m v1")
	holdState(t, m, 2, "")
	if l := m.Flying(); len(l) != 0 {
		t.Errorf("flying: %v", l)
	}
}

// P110: at most MaxSteps of them are played, and answered.
func TestRunMaxSteps(t *testing.T) {
	ask := number(9, 0, 0)
	for _, long := range []int{api.MaxSteps - 1, api.MaxSteps, api.MaxSteps + 1, 2 * api.MaxSteps} {
		m := begun(t, 3)
		script := slices.Repeat([]int{-1}, long)
		script[long-1] = ask
		got := play.Run(m, script)
		want := slices.Repeat([]int{-1}, min(long, api.MaxSteps))
		if long <= api.MaxSteps {
			want[long-1] = 0
		}
		if !slices.Equal(got, want) {
			t.Errorf("%d numbers: %d answers, the last one %d", long, len(got), got[len(got)-1])
		}
		if flies := len(m.Flying()) == 1; flies != (long <= api.MaxSteps) {
			t.Errorf("%d numbers: flying %v", long, m.Flying())
		}
	}
}

// P110: also MaxSteps that all do something.
func TestRunManySteps(t *testing.T) {
	m := begun(t, 3)
	script := slices.Repeat([]int{number(0, 2, 0)}, api.MaxSteps)
	want := slices.Repeat([]int{8}, api.MaxSteps)
	clear(want[:api.MaxOps])
	holdRun(t, m, script, want...)
	if n := len(replicaOf(t, m, 2).Ops()); n != api.MaxOps {
		t.Errorf("%d operations", n)
	}
}

// P4: what is handed over is only read, also behind its length, and not kept; what is answered is new memory.
func TestRunOnlyReads(t *testing.T) {
	script := []int{0, 1, number(11, 1, 0), 12, -1, 0, 0, 0}
	was := slices.Clone(script)
	m := begun(t, 3)
	got := play.Run(m, script[:5])
	if !slices.Equal(script, was) {
		t.Errorf("changed: %v", script)
	}
	state := replicaOf(t, m, 0).State()
	kept := slices.Clone(got)
	clear(script)
	if !slices.Equal(got, kept) {
		t.Errorf("answers changed: %v", got)
	}
	clear(got[:cap(got)])
	holdState(t, m, 0, state)
	holdRun(t, m, []int{-1, 12, 12}, -1, 0, 6)
	holdState(t, m, 1, state)
}

// P112: the same script makes the same play, at once or in pieces, alone or beside others.
func TestRunAgain(t *testing.T) {
	for seed := range 30 {
		x := row(seed)
		script := x.script(300)
		first := begun(t, 3)
		want := play.Run(first, script)
		var all sync.WaitGroup
		meshes, answers := make([]*mesh.Mesh, 8), make([][]int, 8)
		for i := range meshes {
			meshes[i] = begun(t, 3)
			all.Go(func() {
				cut := len(script) * i / 8
				answers[i] = slices.Concat(play.Run(meshes[i], script[:cut]), play.Run(meshes[i], script[cut:]))
			})
		}
		all.Wait()
		for i := range meshes {
			if !slices.Equal(answers[i], want) {
				t.Fatalf("%d: %v, not %v", seed, answers[i], want)
			}
			if a, b := tell(first, 3), tell(meshes[i], 3); !reflect.DeepEqual(a, b) {
				t.Fatalf("%d: %v, not %v", seed, b, a)
			}
		}
	}
}

// A mesh that is nil has no replicas, and no notes.
func TestRunNilMesh(t *testing.T) {
	for kind := range 16 {
		want := 2
		if kind == 12 || kind == 13 {
			want = 6
		}
		holdRun(t, nil, []int{number(kind, 0, 0), -1, number(kind, 1, 77)}, want, -1, want)
	}
}
