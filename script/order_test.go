package script_test

import (
	"fmt"
	"regexp"
	"slices"
	"strconv"
	"strings"
	"testing"

	"concordat/api"
	"concordat/mesh"
	"concordat/replica"
	"concordat/script"
	"concordat/stamp"
	"concordat/view"
)

// rule of one command, by the words of P130: what a line looks like, and what it is answered.
type rule struct {
	line *regexp.Regexp
	does func(m *mesh.Mesh, g []string) (string, error)
}

func rules() []rule {
	kinds := strings.NewReplacer("D", `([0-2])`, "N", `(0|[1-9][0-9]{0,6})`, "W", `([-.0-9a-z]{1,12})`, "L", `([-.0-9a-z])`, "P", `((?s:[^ ]+))`)
	of := func(line string, does func(m *mesh.Mesh, g []string) (string, error)) rule {
		return rule{regexp.MustCompile(`\A` + kinds.Replace(line) + `\z`), does}
	}
	ok := func(err error) (string, error) { return "ok", err }
	return []rule{
		of("make D N W", func(m *mesh.Mesh, g []string) (string, error) {
			o, err := on(m, g).Make(num(g[2]), g[3])
			return byDo(m, g, o, err, api.Op{Kind: 'm', Other: num(g[2]), Name: g[3]})
		}),
		of("move D N N W", func(m *mesh.Mesh, g []string) (string, error) {
			o, err := on(m, g).Move(num(g[2]), num(g[3]), g[4])
			return byDo(m, g, o, err, api.Op{Kind: 'm', Node: num(g[2]), Other: num(g[3]), Name: g[4]})
		}),
		of("write D N N L", func(m *mesh.Mesh, g []string) (string, error) {
			o, err := on(m, g).Write(num(g[2]), num(g[3]), g[4][0])
			return byDo(m, g, o, err, api.Op{Kind: 'i', Node: num(g[2]), Other: num(g[3]), Value: g[4]})
		}),
		of("erase D N N", func(m *mesh.Mesh, g []string) (string, error) {
			o, err := on(m, g).Erase(num(g[2]), num(g[3]))
			return byDo(m, g, o, err, api.Op{Kind: 'd', Node: num(g[2]), Other: num(g[3])})
		}),
		of("mark D N W W", func(m *mesh.Mesh, g []string) (string, error) {
			o, err := on(m, g).Mark(num(g[2]), g[3], g[4])
			return byDo(m, g, o, err, api.Op{Kind: 's', Node: num(g[2]), Name: g[3], Value: g[4]})
		}),
		of("ask D D", func(m *mesh.Mesh, g []string) (string, error) { return ok(m.Ask(num(g[1]), num(g[2]))) }),
		of("go N", func(m *mesh.Mesh, g []string) (string, error) { return ok(m.Deliver(num(g[1]))) }),
		of("drop N", func(m *mesh.Mesh, g []string) (string, error) { return ok(m.Drop(num(g[1]))) }),
		of("twice N", func(m *mesh.Mesh, g []string) (string, error) { return ok(m.Twice(num(g[1]))) }),
		of("cut D N", func(m *mesh.Mesh, g []string) (string, error) { return ok(m.Cut(num(g[1]), num(g[2]))) }),
		of("boot D", func(m *mesh.Mesh, g []string) (string, error) { return ok(m.Boot(num(g[1]))) }),
		of("calm", func(m *mesh.Mesh, g []string) (string, error) {
			return map[bool]string{true: "yes", false: "no"}[m.Calm()], nil
		}),
		of("state D", func(m *mesh.Mesh, g []string) (string, error) {
			return told(strings.Join(strings.Split(on(m, g).State(), "\n"), "; "))
		}),
		of("list D N", func(m *mesh.Mesh, g []string) (string, error) {
			text := ""
			for _, e := range view.List(on(m, g), num(g[2])) {
				text += fmt.Sprintf(" %s:%d", e.Name, e.Node)
			}
			return told(strings.TrimPrefix(text, " "))
		}),
		of("find D P", func(m *mesh.Mesh, g []string) (string, error) {
			node, is := view.Find(on(m, g), g[2])
			return told(strings.Repeat(fmt.Sprint(node), map[bool]int{true: 1}[is]))
		}),
		of("path D N", func(m *mesh.Mesh, g []string) (string, error) {
			path, is := view.Path(on(m, g), num(g[2]))
			return told(strings.Repeat(path, map[bool]int{true: 1}[is]))
		}),
		of("vector D", func(m *mesh.Mesh, g []string) (string, error) {
			v := on(m, g).Vector()
			return fmt.Sprintf("%d.%d.%d.%d", v[0], v[1], v[2], v[3]), nil
		}),
		of("fly", func(m *mesh.Mesh, g []string) (string, error) { return fmt.Sprint(len(m.Flying())), nil }),
	}
}

func num(s string) int {
	n, _ := strconv.Atoi(s)
	return n
}

// on the replica that a line names first.
func on(m *mesh.Mesh, g []string) *replica.Replica {
	r, err := m.Replica(num(g[1]))
	if err != nil {
		panic(err)
	}
	return r
}

// byDo: where the replica would make an operation, Do is asked for the same one.
func byDo(m *mesh.Mesh, g []string, next api.Op, err error, wish api.Op) (string, error) {
	if err != nil {
		return "", err
	}
	made, err := m.Do(num(g[1]), wish)
	if err != nil {
		return "", err
	}
	if made != next {
		panic(fmt.Sprint(made, next))
	}
	id, err := stamp.ID(made.S)
	return fmt.Sprint(id), err
}

func told(text string) (string, error) {
	if text == "" {
		return "nothing", nil
	}
	return text, nil
}

// byWords answers one line.
func byWords(l []rule, m *mesh.Mesh, line string) string {
	for _, r := range l {
		g := r.line.FindStringSubmatch(line)
		if g == nil {
			continue
		}
		text, err := r.does(m, g)
		if err != nil {
			return err.Error()
		}
		return text
	}
	return isText
}

// row of numbers that look like random ones, and are always the same.
type row uint32

func (r *row) next(n int) int {
	*r = *r*1664525 + 1013904223
	return int(*r>>8) % n
}

func pick[T any](r *row, l []T) T { return l[r.next(len(l))] }

// line that says something, most often of what is there; now and then one byte of it is another one.
func (r *row) line(m *mesh.Mesh) string {
	d, e := r.next(3), r.next(3)
	rep, _ := m.Replica(d)
	nodes, paths := []int{0, 1, r.next(300)}, []string{"/", "/a", "a", "/a/b"}
	for _, p := range rep.Tree().Places() {
		path, _ := view.Path(rep, p.Node)
		nodes, paths = append(nodes, p.Node), append(paths, path)
	}
	x, y, w := pick(r, nodes), pick(r, nodes), pick(r, []string{"a", "b", "c", "d.d"})
	makes := fmt.Sprint("make ", d, " ", x, " ", w)
	moves := fmt.Sprint("move ", d, " ", x, " ", y, " ", w)
	writes := fmt.Sprint("write ", d, " ", x, " ", r.next(4), " ", pick(r, []string{"x", "y", "-", "0"}))
	asks, goes := fmt.Sprint("ask ", d, " ", e), fmt.Sprint("go ", r.next(4))
	line := pick(r, []string{
		makes, makes, moves, moves, writes, writes, asks, asks, goes, goes, goes,
		fmt.Sprint("erase ", d, " ", x, " ", r.next(3)), fmt.Sprint("mark ", d, " ", x, " ", w, " ", pick(r, []string{"v", "w"})),
		fmt.Sprint("drop ", r.next(4)), fmt.Sprint("twice ", r.next(4)), fmt.Sprint("cut ", d, " ", r.next(200)), fmt.Sprint("boot ", d), "calm", "fly",
		fmt.Sprint("state ", d), fmt.Sprint("list ", d, " ", x), fmt.Sprint("find ", d, " ", pick(r, paths)), fmt.Sprint("path ", d, " ", x), fmt.Sprint("vector ", d),
	})
	if r.next(12) > 0 {
		return line
	}
	b := []byte(line)
	b[r.next(len(b))] = pick(r, []byte(" 0123abz-./~A\n\x00\xff"))
	return string(b)
}

// script of MaxLines lines, and what the words of P130 make of them.
func (r *row) script(t *testing.T, l []rule) (lines, answers []string) {
	t.Helper()
	m, err := mesh.New(3)
	if err != nil {
		t.Fatal(err)
	}
	for range api.MaxLines - 3 {
		line := r.line(m)
		lines, answers = append(lines, line), append(answers, byWords(l, m, line))
	}
	for _, line := range []string{"state 0", "state 1", "state 2"} {
		lines, answers = append(lines, line), append(answers, byWords(l, m, line))
	}
	return lines, answers
}

// P130, P131: long scripts, held against the words line by line.
func TestRows(t *testing.T) {
	l := rules()
	seen := map[string]int{}
	for seed := range 400 {
		x := row(seed)
		lines, want := x.script(t, l)
		got := run(t, lines)
		for i := range lines {
			if got[i] != want[i] {
				t.Fatalf("%d: %d %q: %q, not %q", seed, i, lines[i], got[i], want[i])
			}
			seen[got[i]]++
		}
	}
	// What a script may answer was there: so the rows say something.
	for _, a := range []string{"ok", "yes", "nothing", "/", "0", isText, isBound, isNone, isCycle, isOff} {
		if seen[a] == 0 {
			t.Errorf("no answer %q", a)
		}
	}
}

// P132: the same lines make the same answers: once more, and however many run them at once; and what stands ahead hangs on nothing behind it.
func TestSameAnswers(t *testing.T) {
	l := rules()
	for seed := range 20 {
		x := row(5000 + seed)
		lines, want := x.script(t, l)
		back := make(chan []string)
		for range 8 {
			go func() {
				got, _ := script.Run(lines)
				back <- got
			}()
		}
		for range 8 {
			if got := <-back; !slices.Equal(got, want) {
				t.Errorf("%d: other answers", seed)
			}
		}
		for long := 0; long <= len(lines); long += 1 + seed {
			if got := run(t, lines[:long]); !slices.Equal(got, want[:long]) {
				t.Errorf("%d: other answers of %d lines", seed, long)
			}
		}
	}
}
