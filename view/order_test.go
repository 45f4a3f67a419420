package view_test

import (
	"cmp"
	"fmt"
	"maps"
	"slices"
	"strings"
	"testing"

	"concordat/api"
	"concordat/replica"
	"concordat/tree"
	"concordat/view"
)

// listOf is what P90 says, word by word.
func listOf(places []tree.Place, in int) []view.Entry {
	var l []view.Entry
	for _, p := range places {
		if p.In == in {
			l = append(l, view.Entry{Name: p.Name, Node: p.Node})
		}
	}
	slices.SortFunc(l, func(a, b view.Entry) int { return cmp.Or(cmp.Compare(a.Name, b.Name), cmp.Compare(a.Node, b.Node)) })
	last := ""
	for i, e := range l {
		if e.Name == last {
			l[i].Name = fmt.Sprintf("%s~%d", e.Name, e.Node)
		}
		last = e.Name
	}
	return l
}

// pathsBelow a node that has this path, and its own: each with its node, from above.
func pathsBelow(places []tree.Place, node int, path string) map[string]int {
	all := map[string]int{path: node}
	for _, e := range listOf(places, node) {
		maps.Copy(all, pathsBelow(places, e.Node, path+"/"+e.Name))
	}
	return all
}

// checkView: all that is told of a replica's places is as the words say.
func checkView(t *testing.T, r *replica.Replica) {
	t.Helper()
	places := r.Tree().Places()
	nodes := []int{api.Root, api.Trash}
	for _, p := range places {
		nodes = append(nodes, p.Node)
	}
	paths := pathsBelow(places, api.Root, "")
	delete(paths, "")
	paths["/"] = api.Root
	byNode := map[int]string{}
	for path, node := range paths {
		byNode[node] = path
	}
	if len(byNode) != len(paths) {
		t.Fatalf("%v: %v", places, paths)
	}
	for _, node := range nodes {
		checkList(t, r, node, listOf(places, node)...)
		if path, is := byNode[node]; is {
			checkPath(t, r, node, path)
		} else {
			checkNoPath(t, r, node)
		}
	}
	checkFinds(t, r, paths)
	lost := slices.Sorted(maps.Values(pathsBelow(places, api.Trash, "")))[1:]
	checkLost(t, r, lost...)
	// Each is the one or the other, but for Trash itself.
	if len(lost)+len(paths)+1 != len(nodes) {
		t.Errorf("%d are lost, %d have paths, of %d", len(lost), len(paths), len(nodes))
	}
	if t.Failed() {
		t.Fatalf("places %v", places)
	}
}

// checkFinds: these paths are found (P92), and none that is nearly one of them, but where it is another one of them.
func checkFinds(t *testing.T, r *replica.Replica, paths map[string]int) {
	t.Helper()
	for path := range paths {
		short, _, _ := strings.Cut(path, "~")
		for _, near := range []string{path, path + "/", path[1:], "/" + path, path + "/a", path + "~", path[:len(path)-1], short, fmt.Sprintf("%s~%d", path, paths[path])} {
			if node, is := paths[near]; is {
				checkFound(t, r, near, node)
			} else {
				checkNotFound(t, r, near)
			}
		}
	}
}

// row of numbers that look like random ones, and are always the same.
type row uint32

func (r *row) next(n int) int {
	*r = *r*1664525 + 1013904223
	return int(*r>>8) % n
}

// someMove that a replica could make: a new node, or one that goes somewhere else, or to Trash.
func (x *row) someMove(r *replica.Replica) (api.Op, error) {
	places := r.Tree().Places()
	name := []string{"a", "b", "aa", "a-", "a.b", "0", "-"}[x.next(7)]
	into := x.next(8)
	if into > api.Trash {
		into = api.Root
	}
	if len(places) > 0 && x.next(3) > 0 {
		into = places[x.next(len(places))].Node
	}
	if len(places) == 0 || x.next(2) == 0 {
		return r.Make(into, name)
	}
	return r.Move(places[x.next(len(places))].Node, into, name)
}

// P90 to P92: replicas that go on by themselves, and meet now and then. Behind each step each is held against the words.
func TestReplicasThatMeet(t *testing.T) {
	var x row
	for range 60 {
		all := make([]*replica.Replica, 3)
		for by := range all {
			all[by] = begun(t, by)
		}
		for range 40 {
			r := all[x.next(3)]
			if o, err := x.someMove(r); err == nil {
				done(t, r, o, err)
			}
			if x.next(4) == 0 {
				if _, err := r.Join(all[x.next(3)].Diff(r.Vector())); err != nil {
					t.Fatal(err)
				}
			}
			checkView(t, r)
		}
		checkMeet(t, all)
	}
}

// checkMeet: who knows the same operations tells the same.
func checkMeet(t *testing.T, all []*replica.Replica) {
	t.Helper()
	for range all {
		for _, r := range all {
			for _, other := range all {
				r.Join(other.Diff(r.Vector()))
			}
		}
	}
	told := tellAll(all[0])
	for _, r := range all {
		checkView(t, r)
		if got := tellAll(r); got != told {
			t.Fatalf("%s, not %s", got, told)
		}
	}
}

// tellAll that is told of a replica.
func tellAll(r *replica.Replica) string {
	text := fmt.Sprintln(view.List(r, api.Root), view.List(r, api.Trash), view.Lost(r))
	for _, p := range r.Tree().Places() {
		path, is := view.Path(r, p.Node)
		text += fmt.Sprintln(p.Node, view.List(r, p.Node), path, is)
	}
	return text
}

// The document's example: one moves a into b, the other one b into a meanwhile. Both are found behind it.
func TestMovesIntoEachOther(t *testing.T) {
	one, other := begun(t, 0), begun(t, 1)
	a, b := makeNode(t, one, api.Root, "a"), makeNode(t, one, api.Root, "b")
	if _, err := other.Join(one.Ops()); err != nil {
		t.Fatal(err)
	}
	move(t, one, a, b, "a")
	move(t, other, b, a, "b")
	checkPath(t, one, a, "/b/a")
	checkPath(t, other, b, "/a/b")
	checkMeet(t, []*replica.Replica{one, other})
	for _, r := range []*replica.Replica{one, other} {
		checkPath(t, r, a, "/b/a")
		checkPath(t, r, b, "/b")
		checkNotFound(t, r, "/a")
		checkLost(t, r)
	}
}

// Two make a node of one name meanwhile: both are there, and the one with the lesser id has the name, at each of them.
func TestSameNameMeanwhile(t *testing.T) {
	one, other := begun(t, 2), begun(t, 1)
	makeNode(t, one, api.Root, "n")
	makeNode(t, other, api.Root, "n")
	checkPath(t, one, 6, "/n")
	checkPath(t, other, 5, "/n")
	checkMeet(t, []*replica.Replica{one, other})
	for _, r := range []*replica.Replica{one, other} {
		checkList(t, r, api.Root, view.Entry{Name: "n", Node: 5}, view.Entry{Name: "n~6", Node: 6})
	}
}
