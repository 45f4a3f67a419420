package side_test

import (
	"math"
	"reflect"
	"runtime"
	"slices"
	"testing"
	"time"

	"concordat/api"
	"concordat/mesh"
	"concordat/play"
	"concordat/side"
)

// The face that is given: a changed signature, or another field, does not compile.
var (
	_ func(scripts [][]int, workers int) ([]side.Told, error) = side.Plays
	_ func(l [][][]api.Op, workers int) ([]string, error)     = side.Merges
	_ struct {
		Answers []int
		States  []string
	} = side.Told{}
)

// wrong numbers of workers.
var wrong = []int{0, -1, -16, api.Workers + 1, 2 * api.Workers, math.MaxInt, math.MinInt}

// row of numbers that look like random ones, and are always the same.
type row uint32

func (r *row) next(n int) int {
	*r = *r*1664525 + 1013904223
	return int(*r>>8) % n
}

// script of so many numbers, some of them below 0.
func (r *row) script(long int) []int {
	var l []int
	for range long {
		v := r.next(100000)
		if r.next(50) == 0 {
			v = -v - 1
		}
		l = append(l, v)
	}
	return l
}

// alone: what one script makes, without anything beside it.
func alone(t *testing.T, script []int) (side.Told, *mesh.Mesh) {
	t.Helper()
	m, err := mesh.New(3)
	if err != nil {
		t.Fatal(err)
	}
	told := side.Told{Answers: play.Run(m, script)}
	for n := range 3 {
		r, err := m.Replica(n)
		if err != nil {
			t.Fatal(err)
		}
		told.States = append(told.States, r.State())
	}
	return told, m
}

func sameTold(a, b side.Told) bool {
	return slices.Equal(a.Answers, b.Answers) && slices.Equal(a.States, b.States)
}

// holdPlays: so many workers tell just this.
func holdPlays(t *testing.T, scripts [][]int, workers int, want []side.Told) {
	t.Helper()
	got, err := side.Plays(scripts, workers)
	if err != nil || !slices.EqualFunc(got, want, sameTold) {
		t.Fatalf("Plays of %d scripts by %d: %v, %v, not %v", len(scripts), workers, got, err, want)
	}
}

// P120: of no script nothing; of an empty one no answers, and three empty states.
func TestPlaysNothing(t *testing.T) {
	nothing := side.Told{States: []string{"", "", ""}}
	for workers := 1; workers <= api.Workers; workers++ {
		holdPlays(t, nil, workers, nil)
		holdPlays(t, [][]int{}, workers, nil)
		holdPlays(t, [][]int{nil}, workers, []side.Told{nothing})
		holdPlays(t, [][]int{{}, nil, {}}, workers, []side.Told{nothing, nothing, nothing})
	}
}

// P120: scripts by hand, whose numbers are worked out by the words.
func TestPlaysByHand(t *testing.T) {
	scripts := [][]int{
		{0},
		{16, 33},     // 1 and 2 make a in Root: nodes 5 and 6
		{-1, 7, 50},  // nothing; a letter of Root; y and x are Root: a node by the name b
		{27, 12, 12}, // 1 asks 0, which has nothing to send: so there is no second note
		{0, 27, 12, 12},
		{14, 0, 15}, // power of 0 fails ahead of the first byte; on again
		{math.MinInt, 0, math.MinInt},
	}
	want := []side.Told{
		{[]int{0}, []string{"4 in 0 a", "", ""}},
		{[]int{0, 0}, []string{"", "5 in 0 a", "6 in 0 a"}},
		{[]int{-1, 6, 0}, []string{"4 in 0 b", "", ""}},
		{[]int{0, 0, 6}, []string{"", "", ""}},
		{[]int{0, 0, 0, 0}, []string{"4 in 0 a", "4 in 0 a", ""}},
		{[]int{0, 11, 0}, []string{"", "", ""}},
		{[]int{-1, 0, -1}, []string{"4 in 0 a", "", ""}},
	}
	for workers := 1; workers <= api.Workers; workers++ {
		holdPlays(t, scripts, workers, want)
	}
	slices.Reverse(scripts)
	slices.Reverse(want)
	holdPlays(t, scripts, 3, want)
}

// P120, P121: scripts of all lengths, by any number of workers, make what each makes alone.
func TestPlaysByAnyNumber(t *testing.T) {
	for seed := range 6 {
		x := row(seed)
		var scripts [][]int
		var want []side.Told
		for range x.next(30) {
			script := x.script(x.next(250))
			told, _ := alone(t, script)
			scripts, want = append(scripts, script), append(want, told)
		}
		for workers := 1; workers <= api.Workers; workers++ {
			holdPlays(t, scripts, workers, want)
		}
	}
}

// P120: each script has a mesh of its own, also where two are one piece of memory.
func TestPlaysOfOneScript(t *testing.T) {
	x := row(7)
	script := x.script(300)
	told, _ := alone(t, script)
	for _, workers := range []int{1, 2, 7, api.Workers} {
		holdPlays(t, slices.Repeat([][]int{script}, 40), workers, slices.Repeat([]side.Told{told}, 40))
	}
}

// P120: of a long script MaxSteps are played.
func TestPlaysMaxSteps(t *testing.T) {
	long := append(slices.Repeat([]int{-1}, api.MaxSteps), 0)
	early := slices.Concat(long[1:], []int{0}) // its number MaxSteps is played, and none behind it
	answers := slices.Repeat([]int{-1}, api.MaxSteps)
	last := slices.Clone(answers)
	last[api.MaxSteps-1] = 0
	holdPlays(t, [][]int{long, early}, 2, []side.Told{
		{answers, []string{"", "", ""}},
		{last, []string{"4 in 0 a", "", ""}},
	})
}

// P120: there may be 100 scripts, and no more.
func TestPlaysBound(t *testing.T) {
	scripts := make([][]int, 100)
	want := make([]side.Told, 100)
	for i := range scripts {
		scripts[i] = slices.Repeat([]int{0}, i%7)
		want[i], _ = alone(t, scripts[i])
	}
	for workers := 1; workers <= api.Workers; workers++ {
		holdPlays(t, scripts, workers, want)
		holdPlays(t, scripts[:99], workers, want[:99])
		for _, many := range []int{101, 102, 5000} {
			holdNoPlays(t, make([][]int, many), workers, api.ErrBound)
		}
	}
}

// holdNoPlays: just this error, bare, and nothing with it.
func holdNoPlays(t *testing.T, scripts [][]int, workers int, want error) {
	t.Helper()
	if got, err := side.Plays(scripts, workers); len(got) != 0 || err != want {
		t.Errorf("Plays of %d scripts by %d: %v, %v, not %v", len(scripts), workers, got, err, want)
	}
}

// P120: a wrong number of workers is told ahead of too many scripts, and also where there is nothing to do.
func TestPlaysWorkers(t *testing.T) {
	for _, workers := range wrong {
		for _, scripts := range [][][]int{nil, {}, {{0}}, make([][]int, 100), make([][]int, 101)} {
			holdNoPlays(t, scripts, workers, api.ErrShape)
		}
	}
}

// P4: scripts are only read, also behind their lengths; what is answered is new memory.
func TestPlaysOnlyReads(t *testing.T) {
	script := []int{0, 16, 27, 12, 12, 0, 0, 0}
	scripts := [][]int{script[:5], script[:2], script[5:5], script[:5], {7}}
	was := slices.Clone(script)
	got, err := side.Plays(scripts[:4], 3)
	if err != nil || !slices.Equal(script, was) || !slices.Equal(scripts[4], []int{7}) {
		t.Fatalf("%v, %v, %v", err, script, scripts)
	}
	want := slices.Clone(got)
	for i := range want {
		want[i].Answers, want[i].States = slices.Clone(got[i].Answers), slices.Clone(got[i].States)
	}
	clear(script)
	if !slices.EqualFunc(got, want, sameTold) {
		t.Errorf("changed with the scripts: %v", got)
	}
	copy(script, was)
	for i := range got {
		// All that could be reached from one answer is written over: no other one shows it.
		a, s := got[i].Answers, got[i].States
		clear(a[:cap(a)])
		clear(s[:cap(s)])
		if rest := got[i+1:]; !slices.EqualFunc(rest, want[i+1:], sameTold) {
			t.Errorf("changed with another answer: %v", rest)
		}
	}
	if !slices.Equal(script, was) {
		t.Errorf("changed with an answer: %v", script)
	}
	holdPlays(t, scripts[:4], 3, want)
}

// P2, P121: calls that are made side by side have the same answers, and each ends.
func TestCallsSideBySide(t *testing.T) {
	x := row(11)
	scripts := [][]int{x.script(100), x.script(10), nil, x.script(200)}
	want, err := side.Plays(scripts, 1)
	if err != nil {
		t.Fatal(err)
	}
	type answer struct {
		got []side.Told
		err error
	}
	answers := make(chan answer)
	for i := range 32 {
		go func() {
			got, err := side.Plays(scripts, 1+i%api.Workers)
			answers <- answer{got, err}
		}()
	}
	for range 32 {
		if a := <-answers; a.err != nil || !reflect.DeepEqual(a.got, want) {
			t.Errorf("%v, %v, not %v", a.got, a.err, want)
		}
	}
}

// No goroutine outlives its call, however it ends.
func TestNobodyStays(t *testing.T) {
	ahead := runtime.NumGoroutine()
	for i := range 50 {
		side.Plays([][]int{{0}, {1}, {2}}, 1+i%api.Workers)
		side.Plays(nil, 1+i%api.Workers)
		side.Plays(make([][]int, 101), 1+i%api.Workers)
		side.Merges([][][]api.Op{nil, {{{}}}, {{{}}}, nil}, 1+i%api.Workers)
		side.Merges(nil, i)
	}
	// One that has said its last word may still be on its way out.
	for range 1000 {
		if runtime.NumGoroutine() <= ahead {
			return
		}
		time.Sleep(time.Millisecond)
	}
	t.Errorf("%d goroutines, not %d", runtime.NumGoroutine(), ahead)
}
