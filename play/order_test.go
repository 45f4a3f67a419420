package play_test

import (
	"fmt"
	"reflect"
	"slices"
	"testing"

	"concordat/api"
	"concordat/mesh"
	"concordat/op"
	"concordat/plain"
	"concordat/play"
	"concordat/replica"
)

// row of numbers that look like random ones, and are always the same.
type row uint32

func (r *row) next(n int) int {
	*r = *r*1664525 + 1013904223
	return int(*r>>8) % n
}

// script of so many numbers, some of them below 0, or far off.
func (r *row) script(long int) []int {
	var l []int
	for range long {
		v := r.next(100000)
		switch r.next(50) {
		case 0:
			v = -v
		case 1:
			v <<= 40
		}
		l = append(l, v)
	}
	return l
}

// byWords plays one number by the words of P110: each kind is a call of its own.
func byWords(m *mesh.Mesh, v int) int {
	if v < 0 {
		return -1
	}
	left := v & 15
	q := (v - left) / 16
	n := q - q/3*3
	k := (q - n) / 3
	nodes := []int{0}
	if r, err := m.Replica(n); err == nil {
		for _, p := range r.Tree().Places() {
			nodes = append(nodes, p.Node)
		}
	}
	x := nodes[k%len(nodes)]
	y := nodes[(k/8)%len(nodes)]
	name := []string{"a", "b", "c", "d"}[k%4]
	does := func(o api.Op) error {
		_, err := m.Do(n, o)
		return err
	}
	makes := func() error { return does(api.Op{Kind: 'm', Other: x, Name: name}) }
	writes := func() error {
		return does(api.Op{Kind: 'i', Node: y, Other: k % 5, Value: fmt.Sprintf("%c", 97+k%26)})
	}
	behind := func() error { return m.Ask(n, []int{1, 2, 0}[n]) }
	calls := []func() error{
		makes, makes,
		func() error { return does(api.Op{Kind: 'm', Node: y, Other: x, Name: name}) },
		func() error { return does(api.Op{Kind: 'm', Node: y, Other: 1, Name: "t"}) },
		writes, writes, writes,
		func() error { return does(api.Op{Kind: 'd', Node: y, Other: k % 5}) },
		func() error { return does(api.Op{Kind: 's', Node: y, Name: "m", Value: fmt.Sprintf("v%d", k%10)}) },
		behind, behind,
		func() error { return m.Ask(n, []int{2, 0, 1}[n]) },
		func() error { return m.Deliver(k % 4) },
		func() error { return []func(int) error{m.Drop, m.Twice}[k%2]((k / 2) % 4) },
		func() error { return m.Cut(n, k%200) },
		func() error { return m.Boot(n) },
	}
	code, _ := plain.Code(calls[left]())
	return code
}

// P110: long scripts, on meshes of any size, held against the words behind each step.
func TestRows(t *testing.T) {
	seen := map[int]int{}
	for seed := range 50 {
		x := row(seed)
		many := 3
		if seed%5 == 0 {
			many = 1 + seed/5%api.Replicas
		}
		m, same := begun(t, many), begun(t, many)
		for _, v := range x.script(400) {
			want := byWords(same, v)
			holdRun(t, m, []int{v}, want)
			seen[want]++
			if a, b := tell(m, many), tell(same, many); !reflect.DeepEqual(a, b) {
				t.Fatalf("%d: %v, not %v", v, a, b)
			}
		}
		holdSame(t, m, same, many)
	}
	// What a play may answer was there: so the rows say something.
	for _, code := range []int{-1, 0, 2, 6, 8, 10, 11} {
		if seen[code] == 0 {
			t.Errorf("no answer %d among %v", code, seen)
		}
	}
}

// P110: at once it is as one by one.
func TestRowsAtOnce(t *testing.T) {
	for seed := range 6 {
		x := row(1000 + seed)
		script := x.script(api.MaxSteps)
		m, same := begun(t, 3), begun(t, 3)
		var want []int
		for _, v := range script {
			want = append(want, byWords(same, v))
		}
		if got := play.Run(m, script); !slices.Equal(got, want) {
			t.Fatalf("%d: other answers", seed)
		}
		holdSame(t, m, same, 3)
	}
}

// P111: what the replicas of a play know is merged, in any order of lists, to the state that they have behind Calm.
func TestMergeBehindPlays(t *testing.T) {
	for seed := range 60 {
		x := row(2000 + seed)
		m := begun(t, 3)
		play.Run(m, x.script(250))
		var lists [][]api.Op
		for n := range 3 {
			lists = append(lists, replicaOf(t, m, n).Ops())
		}
		if !m.Calm() {
			t.Fatalf("%d: does not meet", seed)
		}
		want := replicaOf(t, m, 0).State()
		holdMerge(t, lists, want)
		slices.Reverse(lists)
		holdMerge(t, lists, want)
		all := op.Sort(slices.Concat(lists...))
		holdMerge(t, [][]api.Op{all}, want)
		cut := x.next(len(all) + 1)
		holdMerge(t, [][]api.Op{all[:cut], all[cut:]}, want)
		holdMerge(t, [][]api.Op{all[:cut], all, all[:cut], nil}, want)
	}
}

// mergeByWords is P111 with a replica of which nothing is left out.
func mergeByWords(lists [][]api.Op) (string, int, int) {
	r, _ := replica.New(0)
	for i, l := range lists {
		if _, err := r.Join(l); err != nil {
			code, _ := plain.Code(err)
			return "", i, code
		}
	}
	return r.State(), -1, 0
}

// P111: lists that are cut out of a play anywhere, in any order, some of whose operations are changed.
func TestMergeRows(t *testing.T) {
	seen := map[int]int{}
	for seed := range 1500 {
		x := row(seed)
		m := begun(t, 3)
		play.Run(m, x.script(20+x.next(60)))
		m.Calm()
		all := replicaOf(t, m, 1).Ops()
		var lists [][]api.Op
		for range x.next(6) {
			from := x.next(len(all) + 1)
			l := slices.Clone(all[from*x.next(2) : from+x.next(len(all)-from+1)])
			if len(l) > 0 && x.next(4) == 0 {
				x.spoil(&l[x.next(len(l))])
			}
			lists = append(lists, l)
		}
		s, at, code := mergeByWords(lists)
		seen[code]++
		got, err := play.Merge(lists)
		gotCode, gotAt := plain.Code(err)
		if got != s || gotCode != code || gotAt != at {
			t.Fatalf("Merge(%v): %q, %d at %d, not %q, %d at %d", lists, got, gotCode, gotAt, s, code, at)
		}
	}
	for _, code := range []int{0, 2, 3, 5, 6, 7, 9} {
		if seen[code] == 0 {
			t.Errorf("no error %d among %v", code, seen)
		}
	}
}

// spoil an operation.
func (r *row) spoil(o *api.Op) {
	switch r.next(6) {
	case 0:
		*o = api.Op{}
	case 1:
		o.Kind = 'x'
	case 2:
		o.N++
	case 3:
		o.S.Time++
	case 4:
		o.Node = r.next(60)
	case 5:
		o.Other = r.next(60)
	}
}

// Each three bytes are a number.
func FuzzAnyScript(f *testing.F) {
	f.Add([]byte{3, 0, 0, 0, 0, 1, 9, 0, 0, 60, 0, 0, 12, 0, 0, 4})
	f.Add([]byte{2, 0, 0, 1, 0, 0, 27, 0, 0, 12, 0, 0, 12, 0, 0, 255, 255, 255})
	f.Fuzz(func(t *testing.T, bytes []byte) {
		if len(bytes) < 1 || len(bytes) > 1000 {
			return
		}
		many := 1 + int(bytes[0]%api.Replicas)
		m, same := begun(t, many), begun(t, many)
		var script, want []int
		for l := bytes[1:]; len(l) >= 3; l = l[3:] {
			v := int(l[0]) | int(l[1])<<8 | int(int8(l[2]))<<16
			script = append(script, v)
			want = append(want, byWords(same, v))
		}
		holdRun(t, m, script, want...)
		holdSame(t, m, same, many)
	})
}
