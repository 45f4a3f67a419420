package line_test

import (
	"slices"
	"testing"

	"concordat/api"
	"concordat/line"
)

// hung is the order that P52 leaves: letters hang on the one they stand behind; those that hang on one stand behind it, greater ids ahead, each with all that hang on it.
func hung(l []put, on int) []put {
	var here, all []put
	for _, p := range l {
		if p.behind == on {
			here = append(here, p)
		}
	}
	slices.SortFunc(here, func(a, b put) int { return b.id - a.id })
	for _, p := range here {
		all = append(append(all, p), hung(l, p.id)...)
	}
	return all
}

// checkHung holds a line against these letters, of which some are gone, by all that it tells.
func checkHung(t *testing.T, x *line.Line, l []put, gone []int) {
	t.Helper()
	var ids, seen []int
	var text []byte
	for _, p := range hung(l, 0) {
		ids = append(ids, p.id)
		if !slices.Contains(gone, p.id) {
			seen, text = append(seen, p.id), append(text, p.letter)
		}
	}
	checkLine(t, x, string(text), ids, seen)
	if t.Failed() {
		t.Fatalf("%v without %v", l, gone)
	}
}

// shape number n of so many letters: each behind one of those ahead of it, or at the beginning; some ids are of one time.
func shape(n, long int) []put {
	ids := []int{0}
	var l []put
	for i := range long {
		id := []int{4, 9, 10, 16, 17, 19}[i]
		l = append(l, put{id, ids[n%len(ids)], byte('a' + i)})
		n /= len(ids)
		ids = append(ids, id)
	}
	return l
}

func shapes(long int) int {
	n := 1
	for i := range long {
		n *= i + 1
	}
	return n
}

// eachOrder calls do with each order of letters in which each comes behind the one it stands behind.
func eachOrder(came, left []put, do func([]put)) {
	if len(left) == 0 {
		do(came)
	}
	for i, p := range left {
		if p.behind == 0 || slices.ContainsFunc(came, func(c put) bool { return c.id == p.behind }) {
			eachOrder(append(slices.Clone(came), p), slices.Concat(left[:i], left[i+1:]), do)
		}
	}
}

// P52: all shapes of five letters, in each order, held against the model behind each letter; what comes too early is refused, and no harm.
func TestSmallLinesStepByStep(t *testing.T) {
	for n := range shapes(5) {
		l := shape(n, 5)
		eachOrder(nil, l, func(order []put) {
			x := line.New()
			for i, p := range order {
				for _, q := range order[i+1:] {
					if q.behind == p.id {
						if err := x.Insert(q.id, q.behind, q.letter); err != api.ErrNone {
							t.Fatalf("%v ahead of %v: %v", q, p, err)
						}
					}
				}
				insert(t, x, p)
				checkHung(t, x, order[:i+1], nil)
			}
		})
	}
}

// P52: all shapes of six letters, in each order.
func TestSmallLinesInAnyOrder(t *testing.T) {
	for n := range shapes(6) {
		l := shape(n, 6)
		var want []int
		for _, p := range hung(l, 0) {
			want = append(want, p.id)
		}
		eachOrder(nil, l, func(order []put) {
			if got := written(t, order...).IDs(); !slices.Equal(got, want) {
				t.Fatalf("%v: %v, not %v", order, got, want)
			}
		})
	}
}

// P52: wherever letters are deleted on the way, once or again, it is the same.
func TestDeletedOnTheWay(t *testing.T) {
	for n := range shapes(4) {
		l := shape(n, 4)
		eachOrder(nil, l, func(order []put) {
			// Each letter's digit says how many others come between it and its being deleted; with more than there are it stays.
			for when := range 5 * 5 * 5 * 5 {
				digits := []int{when % 5, when / 5 % 5, when / 25 % 5, when / 125}
				x := line.New()
				var gone []int
				for i, p := range order {
					insert(t, x, p)
					for k, q := range order[:i+1] {
						if digits[k] == i-k {
							remove(t, x, q.id, q.id)
							gone = append(gone, q.id)
						}
					}
				}
				checkHung(t, x, order, gone)
			}
		})
	}
}

// row of numbers that look like random ones, and are always the same.
type row uint32

func (r *row) next(n int) int {
	*r = *r*1664525 + 1013904223
	return int(*r>>8) % n
}

// longLetters: behind any of the last few, or at the beginning, with ids that leave some out.
func longLetters(r *row, long int) []put {
	var l []put
	id := 3
	for i := range long {
		id += 1 + r.next(3)
		behind := 0
		if i > 0 && r.next(8) > 0 {
			behind = l[max(0, i-1-r.next(6))].id
		}
		l = append(l, put{id, behind, byte('a' + i%26)})
	}
	return l
}

// P52: longer lines, in shuffled orders, with some letters deleted as soon as they are there.
func TestLongerLines(t *testing.T) {
	for seed := range 60 {
		r := row(seed)
		l := longLetters(&r, 10+r.next(70))
		for range 20 {
			x, left := line.New(), slices.Clone(l)
			var gone []int
			for len(left) > 0 {
				k := r.next(len(left))
				p := left[k]
				// A letter that waits for another one is left for later.
				if slices.ContainsFunc(left, func(q put) bool { return q.id == p.behind }) {
					continue
				}
				insert(t, x, p)
				if left = slices.Delete(left, k, k+1); r.next(4) == 0 {
					remove(t, x, p.id)
					gone = append(gone, p.id)
				}
			}
			checkHung(t, x, l, gone)
		}
	}
}

// wanted is what Insert must answer, by P50's words, where these letters came.
func wanted(came []put, p put) error {
	has := func(id int) bool { return slices.ContainsFunc(came, func(c put) bool { return c.id == id }) }
	switch {
	case p.id < 4 || p.id > last || p.behind < 0 || p.behind > p.id-1:
		return api.ErrShape
	case has(p.id):
		return api.ErrExist
	case p.behind != 0 && !has(p.behind):
		return api.ErrNone
	}
	return nil
}

// Each three bytes are a call, which may be wrong or come twice.
func FuzzAnyLetters(f *testing.F) {
	f.Add([]byte{9, 1, 0, 11, 9, 1, 10, 9, 0, 6, 1, 0, 9, 0, 255})
	f.Add([]byte{5, 1, 'a', 5, 0, 255, 6, 5, 'b', 6, 6, 'c', 0, 0, 0, 40, 30, 2})
	f.Fuzz(func(t *testing.T, b []byte) {
		x := line.New()
		var came []put
		var gone []int
		for ; len(b) >= 3 && len(came) < 100; b = b[3:] {
			p := put{int(b[0]) - 1, int(b[1]) - 1, b[2]}
			if p.letter == 255 {
				is := slices.ContainsFunc(came, func(c put) bool { return c.id == p.id })
				if err := x.Delete(p.id); is != (err == nil) || !is && err != api.ErrNone {
					t.Fatalf("Delete(%d): %v", p.id, err)
				}
				if is {
					gone = append(gone, p.id)
				}
				continue
			}
			want := wanted(came, p)
			if err := x.Insert(p.id, p.behind, p.letter); err != want {
				t.Fatalf("Insert(%v): %v, not %v", p, err, want)
			}
			if want == nil {
				came = append(came, p)
			}
		}
		checkHung(t, x, came, gone)
	})
}
