package line_test

import (
	"math"
	"slices"
	"strings"
	"testing"

	"concordat/api"
	"concordat/line"
)

// The face that is given: a changed signature does not compile.
var (
	_ func() *line.Line                                     = line.New
	_ func(l *line.Line, id, behind int, letter byte) error = (*line.Line).Insert
	_ func(*line.Line, int) error                           = (*line.Line).Delete
	_ func(*line.Line) string                               = (*line.Line).Text
	_ func(*line.Line) []int                                = (*line.Line).IDs
	_ func(*line.Line, int) (int, bool)                     = (*line.Line).At
)

const last = api.MaxTime*api.Replicas + api.Replicas - 1

// put is one Insert.
type put struct {
	id, behind int
	letter     byte
}

// written is a line of these letters, which all are well.
func written(t *testing.T, l ...put) *line.Line {
	t.Helper()
	x := line.New()
	for _, p := range l {
		insert(t, x, p)
	}
	return x
}

func insert(t *testing.T, x *line.Line, p put) {
	t.Helper()
	if err := x.Insert(p.id, p.behind, p.letter); err != nil {
		t.Fatalf("Insert(%d, %d, %q): %v", p.id, p.behind, p.letter, err)
	}
}

func remove(t *testing.T, x *line.Line, ids ...int) {
	t.Helper()
	for _, id := range ids {
		if err := x.Delete(id); err != nil {
			t.Fatalf("Delete(%d): %v", id, err)
		}
	}
}

// checkLine holds a line against its text and its ids, and At against the ids of those that are seen.
func checkLine(t *testing.T, x *line.Line, text string, ids []int, seen []int) {
	t.Helper()
	if got := x.Text(); got != text {
		t.Errorf("text %q, not %q", got, text)
	}
	if got := x.IDs(); !slices.Equal(got, ids) {
		t.Errorf("ids %v, not %v", got, ids)
	}
	for n, want := range seen {
		if id, is := x.At(n); id != want || !is {
			t.Errorf("At(%d): %d, %v, not %d", n, id, is, want)
		}
	}
	for _, n := range []int{math.MinInt, -len(seen) - 1, -1, len(seen), len(seen) + 1, math.MaxInt} {
		if id, is := x.At(n); id != 0 || is {
			t.Errorf("At(%d): %d, %v", n, id, is)
		}
	}
}

// word is "word": 8, 12, 17 and 22, each behind the one ahead of it.
func word() []put { return []put{{8, 0, 'w'}, {12, 8, 'o'}, {17, 12, 'r'}, {22, 17, 'd'}} }

func TestNewLineIsEmpty(t *testing.T) {
	x := line.New()
	if x == nil {
		t.Fatal("nil")
	}
	checkLine(t, x, "", nil, nil)
	for _, id := range []int{math.MinInt, -1, 0, 1, 4, last, math.MaxInt} {
		if err := x.Delete(id); err != api.ErrNone {
			t.Errorf("Delete(%d): %v", id, err)
		}
	}
	checkLine(t, x, "", nil, nil)
}

// P50: right behind the letter of its id: at the end, at the beginning, between two.
func TestInserted(t *testing.T) {
	x := written(t, word()...)
	checkLine(t, x, "word", []int{8, 12, 17, 22}, []int{8, 12, 17, 22})
	insert(t, x, put{24, 22, '!'})
	checkLine(t, x, "word!", []int{8, 12, 17, 22, 24}, []int{8, 12, 17, 22, 24})
	insert(t, x, put{28, 0, '"'})
	checkLine(t, x, `"word!`, []int{28, 8, 12, 17, 22, 24}, []int{28, 8, 12, 17, 22, 24})
	insert(t, x, put{32, 17, 'l'})
	checkLine(t, x, `"world!`, []int{28, 8, 12, 17, 32, 22, 24}, []int{28, 8, 12, 17, 32, 22, 24})
}

// P50: behind those that follow there and have a greater id; the first lesser one ends that, also if greater ones stand behind it.
func TestGreaterOnesArePassed(t *testing.T) {
	start := []put{{8, 0, 'a'}, {16, 8, 'b'}, {40, 0, 'c'}, {41, 40, 'd'}, {30, 16, 'e'}}
	want := []int{40, 41, 8, 16, 30}
	checkLine(t, written(t, start...), "cdabe", want, want)
	for _, c := range []struct {
		p    put
		text string
	}{
		{put{42, 0, 'x'}, "xcdabe"},
		{put{39, 0, 'x'}, "cdxabe"},
		{put{9, 0, 'x'}, "cdxabe"},
		{put{7, 0, 'x'}, "cdabex"},
		{put{4, 0, 'x'}, "cdabex"},
		{put{42, 40, 'x'}, "cxdabe"},
		{put{43, 41, 'x'}, "cdxabe"},
		{put{17, 8, 'x'}, "cdaxbe"},
		{put{15, 8, 'x'}, "cdabex"},
		{put{29, 8, 'x'}, "cdaxbe"},
		{put{9, 8, 'x'}, "cdabex"},
		{put{17, 16, 'x'}, "cdabex"},
		{put{31, 16, 'x'}, "cdabxe"},
		{put{31, 30, 'x'}, "cdabex"},
	} {
		x := written(t, append(slices.Clone(start), c.p)...)
		if got := x.Text(); got != c.text {
			t.Errorf("%v: %q, not %q", c.p, got, c.text)
		}
	}
}

// The document's example: two write at the beginning, with stamps (5, 0) and (5, 1).
func TestLaterLettersStandAhead(t *testing.T) {
	a, b := put{20, 0, 'X'}, put{21, 0, 'Y'}
	checkLine(t, written(t, a, b), "YX", []int{21, 20}, []int{21, 20})
	checkLine(t, written(t, b, a), "YX", []int{21, 20}, []int{21, 20})
}

// P50: a word that was written at one place stays together.
func TestWordsAreNotMixed(t *testing.T) {
	start := put{4, 0, '.'}
	here := []put{{8, 0, 'o'}, {12, 8, 'n'}, {16, 12, 'e'}}
	there := []put{{9, 0, 't'}, {13, 9, 'w'}, {17, 13, 'o'}}
	want := []int{9, 13, 17, 8, 12, 16, 4}
	for _, l := range [][]put{
		slices.Concat([]put{start}, here, there), slices.Concat([]put{start}, there, here), slices.Concat(there, here, []put{start}),
		{here[0], there[0], here[1], start, there[1], here[2], there[2]},
	} {
		checkLine(t, written(t, l...), "twoone.", want, want)
	}
}

// P50: a deleted letter is seen no more, also again; it stays among the ids, and letters stand behind it.
func TestDeleted(t *testing.T) {
	all := []int{8, 12, 17, 22}
	x := written(t, word()...)
	remove(t, x, 12)
	checkLine(t, x, "wrd", all, []int{8, 17, 22})
	remove(t, x, 12, 12)
	checkLine(t, x, "wrd", all, []int{8, 17, 22})
	remove(t, x, 8)
	checkLine(t, x, "rd", all, []int{17, 22})
	insert(t, x, put{28, 12, 'x'})
	checkLine(t, x, "xrd", []int{8, 12, 28, 17, 22}, []int{28, 17, 22})
	remove(t, x, 22, 28)
	checkLine(t, x, "r", []int{8, 12, 28, 17, 22}, []int{17})
	remove(t, x, 17)
	checkLine(t, x, "", []int{8, 12, 28, 17, 22}, nil)
	insert(t, x, put{32, 22, 'z'})
	checkLine(t, x, "z", []int{8, 12, 28, 17, 22, 32}, []int{32})
}

// P50: deleted letters with a greater id are passed like others.
func TestDeletedOnesArePassed(t *testing.T) {
	x := written(t, put{4, 0, 'a'}, put{20, 4, 'b'}, put{16, 4, 'c'})
	remove(t, x, 20, 16)
	insert(t, x, put{18, 4, 'd'})
	insert(t, x, put{9, 4, 'e'})
	checkLine(t, x, "ade", []int{4, 20, 18, 16, 9}, []int{4, 18, 9})
}

// P50: the least and the greatest id, and the greatest that a letter may stand behind.
func TestEndsOfIDs(t *testing.T) {
	x := written(t, put{4, 0, 'a'}, put{5, 4, 'b'}, put{last - 1, 5, 'c'}, put{last, last - 1, 'd'})
	checkLine(t, x, "abcd", []int{4, 5, last - 1, last}, []int{4, 5, last - 1, last})
	checkLine(t, written(t, put{last, 0, 'a'}), "a", []int{last}, []int{last})
	if last != 4294967299 {
		t.Error(last)
	}
}

// P50, P51: a letter is any byte.
func TestAnyByte(t *testing.T) {
	x := line.New()
	var want []byte
	behind := 0
	for b := range 256 {
		id := 4 + b
		insert(t, x, put{id, behind, byte(b)})
		want, behind = append(want, byte(b)), id
	}
	if got := x.Text(); got != string(want) {
		t.Errorf("%q", got)
	}
	remove(t, x, 4, 4+'a', 4+255)
	if got := x.Text(); got != strings.ReplaceAll(string(want[1:255]), "a", "") {
		t.Errorf("%q", got)
	}
}

// wrongPuts: what Insert refuses, and how, where word was written, and its 17 deleted.
func wrongPuts() []struct {
	id, behind int
	err        error
} {
	return []struct {
		id, behind int
		err        error
	}{
		{0, 0, api.ErrShape}, {1, 0, api.ErrShape}, {3, 0, api.ErrShape}, {-1, 0, api.ErrShape}, {-8, 0, api.ErrShape}, {-8, -9, api.ErrShape},
		{math.MinInt, 0, api.ErrShape}, {math.MinInt, math.MinInt, api.ErrShape}, {math.MaxInt, 0, api.ErrShape}, {math.MaxInt, 8, api.ErrShape},
		{last + 1, 0, api.ErrShape}, {last + 1, 8, api.ErrShape},
		{24, -1, api.ErrShape}, {24, math.MinInt, api.ErrShape}, {24, 24, api.ErrShape}, {24, 25, api.ErrShape}, {24, math.MaxInt, api.ErrShape},
		{16, 17, api.ErrShape}, {4, 8, api.ErrShape}, {5, 5, api.ErrShape}, {last, last, api.ErrShape},
		// ErrShape comes ahead of ErrExist, and that ahead of ErrNone.
		{8, 8, api.ErrShape}, {8, -1, api.ErrShape}, {12, 17, api.ErrShape},
		{8, 0, api.ErrExist}, {12, 8, api.ErrExist}, {12, 0, api.ErrExist}, {17, 12, api.ErrExist}, {22, 17, api.ErrExist},
		{22, 21, api.ErrExist}, {8, 3, api.ErrExist}, {17, 16, api.ErrExist},
		{24, 1, api.ErrNone}, {24, 3, api.ErrNone}, {24, 4, api.ErrNone}, {24, 23, api.ErrNone}, {9, 7, api.ErrNone}, {last, last - 1, api.ErrNone},
	}
}

// P3: errors are bare, and change nothing.
func TestRefused(t *testing.T) {
	x := written(t, word()...)
	remove(t, x, 17)
	for _, c := range wrongPuts() {
		if err := x.Insert(c.id, c.behind, 'x'); err != c.err {
			t.Errorf("Insert(%d, %d): %v, not %v", c.id, c.behind, err, c.err)
		}
		checkLine(t, x, "wod", []int{8, 12, 17, 22}, []int{8, 12, 22})
	}
	for _, id := range []int{math.MinInt, -8, -1, 0, 1, 3, 4, 7, 9, 23, last, last + 1, math.MaxInt} {
		if err := x.Delete(id); err != api.ErrNone {
			t.Errorf("Delete(%d): %v, not ErrNone", id, err)
		}
		checkLine(t, x, "wod", []int{8, 12, 17, 22}, []int{8, 12, 22})
	}
	// Also what does not show at once: what was refused is still free.
	insert(t, x, put{23, 0, '!'})
	insert(t, x, put{24, 23, '?'})
	checkLine(t, x, "!?wod", []int{23, 24, 8, 12, 17, 22}, []int{23, 24, 8, 12, 22})
}

// P50: what was not there to be deleted, or to stand behind, may come later.
func TestRefusedAndThenWell(t *testing.T) {
	x := line.New()
	if err := x.Delete(8); err != api.ErrNone {
		t.Errorf("Delete: %v", err)
	}
	if err := x.Insert(12, 8, 'b'); err != api.ErrNone {
		t.Errorf("Insert: %v", err)
	}
	insert(t, x, put{8, 0, 'a'})
	insert(t, x, put{12, 8, 'b'})
	checkLine(t, x, "ab", []int{8, 12}, []int{8, 12})
}

// P4: ids that are handed out are the caller's.
func TestIDsAreNewMemory(t *testing.T) {
	x := written(t, word()...)
	first, kept := x.IDs(), x.IDs()
	for i := range first {
		first[i] = -1
	}
	_ = append(first[:0], 99)
	checkLine(t, x, "word", []int{8, 12, 17, 22}, []int{8, 12, 17, 22})
	insert(t, x, put{24, 0, '!'})
	if !slices.Equal(kept, []int{8, 12, 17, 22}) {
		t.Errorf("a later letter shows in what was told: %v", kept)
	}
}

// P2: lines know nothing of each other, and asking changes nothing.
func TestLinesAreTheirOwn(t *testing.T) {
	a, b := written(t, word()...), line.New()
	if a == b {
		t.Fatal("one line")
	}
	checkLine(t, b, "", nil, nil)
	for range 3 {
		checkLine(t, a, "word", []int{8, 12, 17, 22}, []int{8, 12, 17, 22})
	}
	remove(t, a, 8)
	for _, p := range word() {
		insert(t, b, p)
	}
	checkLine(t, b, "word", []int{8, 12, 17, 22}, []int{8, 12, 17, 22})
}

// P1: a long line, longer than a replica's operations can make one, ends too.
func TestLongLine(t *testing.T) {
	const long = 3000
	ends, starts := line.New(), line.New()
	var rising []int
	behind := 0
	for id := 4; id < 4+long; id++ {
		insert(t, starts, put{id, 0, 'a' + byte(id%26)})
		insert(t, ends, put{id, behind, 'a' + byte(id%26)})
		rising, behind = append(rising, id), id
	}
	if got := ends.IDs(); !slices.Equal(got, rising) {
		t.Error("each behind the last one")
	}
	slices.Reverse(rising)
	if got := starts.IDs(); !slices.Equal(got, rising) || len(starts.Text()) != long {
		t.Error("each at the beginning")
	}
}
