package script_test

import (
	"slices"
	"strings"
	"testing"

	"concordat/api"
	"concordat/script"
)

// The face that is given: a changed signature does not compile.
var _ func(lines []string) ([]string, error) = script.Run

const (
	isText  = "concordat: text"
	isBound = "concordat: bound"
	isNone  = "concordat: none"
	isFull  = "concordat: full"
	isGap   = "concordat: gap"
	isCycle = "concordat: cycle"
	isOff   = "concordat: off"
)

// pair of a line and its answer.
type pair [2]string

// hold: these lines, one behind the other, have these answers.
func hold(t *testing.T, pairs ...pair) {
	t.Helper()
	var lines []string
	for _, p := range pairs {
		lines = append(lines, p[0])
	}
	got := run(t, lines)
	for i, p := range pairs {
		if got[i] != p[1] {
			t.Errorf("%d %q: %q, not %q", i, p[0], got[i], p[1])
		}
	}
}

// run lines that are not too many: each has an answer.
func run(t *testing.T, lines []string) []string {
	t.Helper()
	got, err := script.Run(lines)
	if err != nil || len(got) != len(lines) {
		t.Fatalf("%d lines: %q, %v", len(lines), got, err)
	}
	return got
}

// P130: no lines.
func TestNothing(t *testing.T) {
	run(t, nil)
	run(t, []string{})
}

// P130: there may be MaxLines lines, and no more, whatever they say.
func TestBound(t *testing.T) {
	for _, line := range []string{"fly", "", "what", "make 0 0 a"} {
		for _, many := range []int{1, 99, 100} {
			run(t, slices.Repeat([]string{line}, many))
		}
		for _, many := range []int{101, 102, 5000} {
			got, err := script.Run(slices.Repeat([]string{line}, many))
			if len(got) != 0 || err != api.ErrBound {
				t.Errorf("%d lines: %q, %v", many, got, err)
			}
		}
	}
	got := run(t, slices.Repeat([]string{"make 0 0 a"}, 100))
	if got[99] != "400" {
		t.Errorf("the last of 100: %q", got[99])
	}
}

// P130: at the beginning nobody knows anything, and nothing flies.
func TestBeginning(t *testing.T) {
	hold(t, pair{"fly", "0"})
	for _, d := range []string{"0", "1", "2"} {
		hold(t,
			pair{"state " + d, "nothing"}, pair{"vector " + d, "0.0.0.0"},
			pair{"list " + d + " 0", "nothing"}, pair{"list " + d + " 1", "nothing"}, pair{"list " + d + " 4", "nothing"},
			pair{"find " + d + " /", "0"}, pair{"find " + d + " /a", "nothing"},
			pair{"path " + d + " 0", "/"}, pair{"path " + d + " 1", "nothing"}, pair{"path " + d + " 4", "nothing"},
			pair{"boot " + d, "ok"}, pair{"state " + d, "nothing"},
			pair{"calm", "yes"}, pair{"fly", "0"},
		)
	}
}

// P130: each call has a mesh of its own.
func TestAnew(t *testing.T) {
	for range 3 {
		hold(t, pair{"state 0", "nothing"}, pair{"fly", "0"}, pair{"make 0 0 a", "4"}, pair{"ask 0 1", "ok"}, pair{"cut 0 0", "ok"}, pair{"make 0 0 b", isOff})
	}
}

// P130: make and move tell the operation's id; what they name must be there.
func TestMakeAndMove(t *testing.T) {
	hold(t,
		pair{"make 0 0 a", "4"}, pair{"make 1 0 a", "5"}, pair{"make 2 0 a", "6"},
		pair{"make 0 4 b", "8"}, pair{"make 0 1 lost", "12"}, pair{"make 0 8 c", "16"},
		pair{"state 0", "4 in 0 a; 8 in 4 b; 12 in 1 lost; 16 in 8 c"},
		pair{"make 0 5 x", isNone}, pair{"make 0 2 x", isNone}, pair{"make 0 20 x", isNone}, pair{"make 0 9999999 x", isNone},
		pair{"move 0 16 0 d", "20"}, pair{"move 0 12 16 was-lost", "24"}, pair{"move 0 4 1 t", "28"},
		pair{"state 0", "4 in 1 t; 8 in 4 b; 12 in 16 was-lost; 16 in 0 d"},
		pair{"move 0 4 4 x", isCycle}, pair{"move 0 16 12 x", isCycle}, pair{"move 0 4 8 x", isCycle},
		pair{"move 0 5 0 x", isNone}, pair{"move 0 1 0 x", isNone}, pair{"move 0 20 0 x", isNone}, pair{"move 0 9999999 0 x", isNone},
		pair{"move 0 4 5 x", isNone}, pair{"move 0 4 20 x", isNone},
		pair{"vector 0", "7.0.0.0"}, pair{"state 1", "5 in 0 a"}, pair{"state 2", "6 in 0 a"},
	)
}

// P130, P71: a move of Root makes no node, whatever else is so.
func TestMoveOfRoot(t *testing.T) {
	hold(t,
		pair{"make 0 0 a", "4"},
		pair{"move 0 0 0 x", isNone}, pair{"move 0 0 1 x", isNone}, pair{"move 0 0 4 x", isNone}, pair{"move 0 0 99 x", isNone},
		pair{"cut 0 0", "ok"}, pair{"move 0 0 4 x", isNone}, pair{"move 0 4 0 x", isOff}, pair{"move 0 0 4 x", isNone},
		pair{"vector 0", "1.0.0.0"}, pair{"state 0", "4 in 0 a"},
	)
}

// P130: letters are written at their numbers, and erased.
func TestWriteAndErase(t *testing.T) {
	hold(t,
		pair{"make 0 0 a", "4"},
		pair{"write 0 4 1 x", isNone}, pair{"erase 0 4 0", isNone},
		pair{"write 0 4 0 b", "8"}, pair{"write 0 4 0 a", "12"}, pair{"write 0 4 2 c", "16"}, pair{"write 0 4 1 -", "20"},
		pair{"state 0", "4 in 0 a; 4 text a-bc"},
		pair{"write 0 4 5 x", isNone}, pair{"write 0 4 9999999 x", isNone}, pair{"erase 0 4 4", isNone},
		pair{"erase 0 4 1", "24"}, pair{"state 0", "4 in 0 a; 4 text abc"},
		pair{"write 0 4 3 .", "28"}, pair{"write 0 4 4 7", "32"}, pair{"erase 0 4 0", "36"},
		pair{"state 0", "4 in 0 a; 4 text bc.7"},
		pair{"write 0 0 0 x", isNone}, pair{"write 0 1 0 x", isNone}, pair{"write 0 8 0 x", isNone}, pair{"write 1 4 0 x", isNone},
		pair{"erase 0 0 0", isNone}, pair{"erase 0 1 0", isNone}, pair{"erase 0 8 0", isNone}, pair{"erase 1 4 0", isNone},
		pair{"vector 0", "9.0.0.0"},
	)
}

// P130: marks by names.
func TestMark(t *testing.T) {
	hold(t,
		pair{"make 2 0 a", "6"}, pair{"make 2 6 b", "10"},
		pair{"mark 2 10 m v", "14"}, pair{"mark 2 6 z 1", "18"}, pair{"mark 2 6 b 2", "22"},
		pair{"state 2", "6 in 0 a; 10 in 6 b; 6 mark b 2; 6 mark z 1; 10 mark m v"},
		pair{"mark 2 6 z abcdefghijkl", "26"}, pair{"mark 2 10 a.b-c.d-e.f- -", "30"},
		pair{"state 2", "6 in 0 a; 10 in 6 b; 6 mark b 2; 6 mark z abcdefghijkl; 10 mark a.b-c.d-e.f- -; 10 mark m v"},
		pair{"mark 2 0 m v", isNone}, pair{"mark 2 1 m v", isNone}, pair{"mark 2 14 m v", isNone}, pair{"mark 0 6 m v", isNone},
		pair{"vector 2", "0.0.7.0"},
	)
}

// P130: notes are asked for, go, are dropped, and fly twice.
func TestNotes(t *testing.T) {
	hold(t,
		pair{"make 0 0 a", "4"},
		pair{"go 0", isNone}, pair{"drop 0", isNone}, pair{"twice 0", isNone},
		pair{"ask 0 0", isBound}, pair{"ask 1 1", isBound}, pair{"ask 2 2", isBound}, pair{"fly", "0"},
		pair{"ask 1 0", "ok"}, pair{"ask 2 1", "ok"}, pair{"twice 0", "ok"}, pair{"fly", "3"},
		pair{"go 3", isNone}, pair{"drop 3", isNone}, pair{"twice 3", isNone}, pair{"go 9999999", isNone},
		pair{"go 1", "ok"}, pair{"fly", "2"}, // 1 has nothing that 2 lacks
		pair{"drop 0", "ok"}, pair{"fly", "1"},
		pair{"go 0", "ok"}, pair{"fly", "1"}, pair{"state 1", "nothing"}, // the answer flies
		pair{"twice 0", "ok"}, pair{"go 1", "ok"}, pair{"state 1", "4 in 0 a"}, pair{"go 0", "ok"}, pair{"fly", "0"},
		pair{"vector 1", "1.0.0.0"}, pair{"vector 2", "0.0.0.0"},
		pair{"ask 2 1", "ok"}, pair{"go 0", "ok"}, pair{"go 0", "ok"}, pair{"state 2", "4 in 0 a"},
	)
}

// P130, P131: no more than MaxFlying fly; that an ask is of nobody is told ahead of that.
func TestFull(t *testing.T) {
	pairs := slices.Repeat([]pair{{"ask 0 1", "ok"}}, 30)
	pairs = append(pairs,
		pair{"fly", "30"}, pair{"ask 1 2", isFull}, pair{"twice 0", isFull}, pair{"twice 30", isNone}, pair{"ask 1 1", isBound},
		pair{"drop 29", "ok"}, pair{"twice 28", "ok"}, pair{"fly", "30"}, pair{"go 0", "ok"}, pair{"ask 1 2", "ok"}, pair{"ask 1 2", isFull},
		pair{"calm", "yes"}, pair{"fly", "0"})
	hold(t, pairs...)
}

// P130, P131: power fails, and a replica begins anew with what its disk has.
func TestPower(t *testing.T) {
	hold(t,
		pair{"make 0 0 a", "4"}, pair{"cut 0 9999999", "ok"}, pair{"make 0 0 b", "8"}, pair{"cut 0 3", "ok"}, pair{"make 0 9 c", isNone}, pair{"make 0 0 c", isOff},
		pair{"cut 0 3", isOff}, pair{"mark 0 4 m v", isOff}, pair{"write 0 4 0 x", isOff}, pair{"erase 0 4 0", isNone}, pair{"move 0 8 4 b", isOff}, pair{"move 0 4 4 b", isCycle},
		pair{"vector 0", "2.0.0.0"}, pair{"boot 0", "ok"}, pair{"state 0", "4 in 0 a; 8 in 0 b"}, pair{"make 0 0 c", "12"},
		pair{"cut 1 0", "ok"}, pair{"ask 1 0", "ok"}, pair{"go 0", "ok"}, pair{"go 0", isOff},
		pair{"state 1", "4 in 0 a; 8 in 0 b; 12 in 0 c"}, pair{"boot 1", "ok"}, pair{"state 1", "nothing"}, pair{"boot 2", "ok"}, pair{"cut 2 0", "ok"}, pair{"boot 2", "ok"}, pair{"make 2 0 a", "6"},
	)
}

// P131: what comes behind a gap has its error, and the note is gone.
func TestGap(t *testing.T) {
	hold(t,
		pair{"make 0 0 a", "4"}, pair{"cut 1 0", "ok"}, pair{"ask 1 0", "ok"}, pair{"go 0", "ok"}, pair{"go 0", isOff}, pair{"vector 1", "1.0.0.0"},
		pair{"make 0 0 b", "8"}, pair{"ask 1 0", "ok"}, pair{"boot 1", "ok"}, pair{"vector 1", "0.0.0.0"},
		pair{"go 0", "ok"}, pair{"fly", "1"}, pair{"go 0", isGap}, pair{"fly", "0"}, pair{"state 1", "nothing"},
		pair{"calm", "yes"}, pair{"state 1", "4 in 0 a; 8 in 0 b"},
	)
}

// P130: names, paths and what lies where.
func TestLooks(t *testing.T) {
	hold(t,
		pair{"make 0 0 b", "4"}, pair{"make 0 0 a", "8"}, pair{"make 0 0 b", "12"}, pair{"make 0 12 a", "16"}, pair{"make 0 0 b", "20"},
		pair{"list 0 0", "a:8 b:4 b~12:12 b~20:20"}, pair{"list 0 12", "a:16"}, pair{"list 0 16", "nothing"}, pair{"list 0 9999999", "nothing"}, pair{"list 1 0", "nothing"},
		pair{"find 0 /", "0"}, pair{"find 0 /a", "8"}, pair{"find 0 /b", "4"}, pair{"find 0 /b~12", "12"}, pair{"find 0 /b~12/a", "16"}, pair{"find 0 /b~20", "20"},
		pair{"find 0 /b/a", "nothing"}, pair{"find 0 /b~4", "nothing"}, pair{"find 0 /a/", "nothing"}, pair{"find 0 //a", "nothing"}, pair{"find 1 /a", "nothing"},
		pair{"path 0 0", "/"}, pair{"path 0 4", "/b"}, pair{"path 0 12", "/b~12"}, pair{"path 0 16", "/b~12/a"}, pair{"path 0 9999999", "nothing"}, pair{"path 1 4", "nothing"},
		pair{"move 0 12 1 t", "24"}, pair{"list 0 1", "t:12"}, pair{"path 0 12", "nothing"}, pair{"path 0 16", "nothing"}, pair{"path 0 1", "nothing"}, pair{"find 0 /b~20", "20"},
		pair{"list 0 0", "a:8 b:4 b~20:20"}, pair{"move 0 4 8 b", "28"}, pair{"list 0 0", "a:8 b:20"}, pair{"path 0 4", "/a/b"}, pair{"find 0 /b", "20"},
	)
}

// P130: all that was done by each is the same everywhere behind calm.
func TestCalm(t *testing.T) {
	hold(t,
		pair{"make 0 0 a", "4"}, pair{"calm", "yes"},
		pair{"write 1 4 0 x", "9"}, pair{"write 2 4 0 y", "10"}, pair{"mark 0 4 m u", "8"}, pair{"mark 1 4 m v", "13"}, pair{"make 2 4 b", "14"},
		pair{"ask 0 1", "ok"}, pair{"cut 0 0", "ok"}, pair{"calm", "yes"}, pair{"fly", "0"},
		pair{"state 0", "4 in 0 a; 14 in 4 b; 4 text yx; 4 mark m v"}, pair{"state 1", "4 in 0 a; 14 in 4 b; 4 text yx; 4 mark m v"}, pair{"state 2", "4 in 0 a; 14 in 4 b; 4 text yx; 4 mark m v"},
		pair{"vector 0", "2.2.2.0"}, pair{"vector 1", "2.2.2.0"}, pair{"vector 2", "2.2.2.0"},
	)
}

// DOC.md's examples: a into b, and b into a meanwhile.
func TestMovesThatMeet(t *testing.T) {
	hold(t,
		pair{"make 0 0 a", "4"}, pair{"make 0 0 b", "8"}, pair{"calm", "yes"},
		pair{"move 0 4 8 a", "12"}, pair{"move 1 8 4 b", "13"},
		pair{"state 0", "4 in 8 a; 8 in 0 b"}, pair{"state 1", "4 in 0 a; 8 in 4 b"},
		pair{"calm", "yes"}, pair{"state 0", "4 in 8 a; 8 in 0 b"}, pair{"state 1", "4 in 8 a; 8 in 0 b"},
	)
}

// P4: lines are only read, also behind their length; what is answered is new memory.
func TestOnlyReads(t *testing.T) {
	all := []string{"make 0 0 a", "state 0", "what", "find 0 /a", "make 0 0 b", "boot 0"}
	was := slices.Clone(all)
	got := run(t, all[:4])
	want := []string{"4", "4 in 0 a", isText, "4"}
	if !slices.Equal(got, want) || !slices.Equal(all, was) {
		t.Fatalf("%q of %q", got, all)
	}
	clear(got[:cap(got)])
	if !slices.Equal(all, was) {
		t.Errorf("changed with the answers: %q", all)
	}
	got = run(t, all[:4])
	clear(all)
	if !slices.Equal(got, want) {
		t.Errorf("changed with the lines: %q", got)
	}
}

// P1: a long line ends, too.
func TestLongLines(t *testing.T) {
	long := strings.Repeat("0", 1<<20)
	hold(t,
		pair{long, isText}, pair{strings.Repeat(" ", 1<<20), isText}, pair{"make 0 0 " + long, isText}, pair{"make 0 " + long + " a", isText},
		pair{"make 0 0 a" + strings.Repeat(" a", 1<<20), isText}, pair{"find 0 /" + long, "nothing"}, pair{"find 0 " + strings.Repeat("/", 1<<20), "nothing"},
		pair{"vector 0", "0.0.0.0"},
	)
}
