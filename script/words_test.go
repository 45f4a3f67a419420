package script_test

import (
	"strings"
	"testing"
)

// right lines: one of each command, with what its words are. Before them there are a node 4 in replica 0 with a letter, and a note that flies.
func rightLines() []struct{ line, form string } {
	return []struct{ line, form string }{
		{"make 0 4 b", "DNW"}, {"move 0 4 0 b", "DNNW"}, {"write 0 4 0 x", "DNNL"}, {"erase 0 4 0", "DNN"}, {"mark 0 4 m v", "DNWW"},
		{"ask 0 1", "DD"}, {"go 0", "N"}, {"drop 0", "N"}, {"twice 0", "N"}, {"cut 0 7", "DN"}, {"boot 0", "D"},
		{"calm", ""}, {"state 0", "D"}, {"list 0 0", "DN"}, {"find 0 /a", "DP"}, {"path 0 4", "DN"}, {"vector 0", "D"}, {"fly", ""},
	}
}

// answerOf a line, and whether something was changed by it.
func answerOf(t *testing.T, line string) (string, bool) {
	t.Helper()
	ahead := []string{"make 0 0 a", "write 0 4 0 h", "ask 1 0"}
	looks := []string{"vector 0", "vector 1", "vector 2", "state 0", "fly", "cut 0 0", "make 0 0 a", "boot 0", "vector 0", "go 0", "go 0", "vector 1", "fly"}
	without := run(t, append(ahead, looks...))[len(ahead):]
	got := run(t, append(append(ahead, line), looks...))[len(ahead):]
	return got[0], strings.Join(got[1:], "|") != strings.Join(without, "|")
}

// holdNoLine: it is none, and changes nothing.
func holdNoLine(t *testing.T, line string) {
	t.Helper()
	if got, changed := answerOf(t, line); got != isText || changed {
		t.Errorf("%q: %q, not a line that is none (changed: %v)", line, got, changed)
	}
}

// holdLine: it is one.
func holdLine(t *testing.T, line string) {
	t.Helper()
	if got, _ := answerOf(t, line); got == isText {
		t.Errorf("%q: %q", line, got)
	}
}

// with the word of this number put in place of what is there.
func with(line string, at int, word string) string {
	l := strings.Split(line, " ")
	l[at] = word
	return strings.Join(l, " ")
}

// P130: each command, with its words, all of them, and no others.
func TestCommands(t *testing.T) {
	for _, x := range rightLines() {
		holdLine(t, x.line)
		words := strings.Split(x.line, " ")
		for i := range words {
			holdNoLine(t, strings.Join(append(append([]string{}, words[:i]...), words[i+1:]...), " "))
			holdNoLine(t, with(x.line, i, ""))
			holdNoLine(t, with(x.line, i, " "+words[i]))
			holdNoLine(t, with(x.line, i, words[i]+" "))
			if i > 0 {
				holdNoLine(t, with(x.line, i-1, words[i-1]+"\t"+words[i]))
			}
		}
		for _, more := range []string{" ", "  ", " 0", " a", " 0 0 0 0", "\t", "\r", "\n", "\x00"} {
			if !strings.HasSuffix(x.form, "P") || more[0] == ' ' {
				holdNoLine(t, x.line+more)
			}
			holdNoLine(t, more+x.line)
		}
		for _, name := range []string{strings.ToUpper(words[0]), strings.ToUpper(words[0][:1]) + words[0][1:], words[0] + "s", words[0][1:], words[0][:len(words[0])-1], "/" + words[0]} {
			holdNoLine(t, with(x.line, 0, name))
		}
	}
}

// P130, P131: what is no command.
func TestNoCommands(t *testing.T) {
	for _, line := range []string{
		"", " ", "  ", "what", "0", "what 0 0", "deliver 0", "time 0", "text 0 4", "diff 0", "read", "yes", "ok", "nothing", "on 0", "lost 0", "flying", "D", "# calm", "calm # now", "calm;fly", "calm\nfly", "state", "\xff", "\x00", "ｆｌｙ",
	} {
		holdNoLine(t, line)
	}
}

// P130: what each word may be, wherever one of its kind stands.
func TestWords(t *testing.T) {
	kinds := map[rune]struct{ right, wrong []string }{
		'D': {
			[]string{"0", "1", "2"},
			[]string{"3", "4", "9", "10", "20", "00", "01", "-0", "-1", "+1", "a", "x", ".", "0.0", "1 ", "٠", "\x00"},
		},
		'N': {
			[]string{"0", "1", "4", "10", "9999999", "1000000", "1234567"},
			[]string{"10000000", "12345678", "00", "01", "0000000", "-1", "+1", "-0", "1.0", "1e3", "0x1", "1_0", "a", ".", "-", "٤", "4\x00", "99999999999999999999", "18446744073709551616"},
		},
		'W': {
			[]string{"a", "z", "0", "9", "-", ".", "..", "--", "a-b.c0", "abcdefghijkl", "000000000000", "m"},
			[]string{"abcdefghijklm", "A", "aB", "a_b", "a~5", "~", "/", "/a", "a/b", "ä", "a\x00", "a\x7f", "\xff", "a:b", "a;b", "a|b", "ａ"},
		},
		'L': {
			[]string{"a", "z", "0", "9", "-", ".", "q"},
			[]string{"ab", "00", "..", "abcdefghijkl", "A", "Z", "_", "~", "/", "!", "ä", "\x00", "\x7f", "\xe4", "\xff"},
		},
		'P': {
			[]string{"/", "//", "/a", "/a/b", "/a~4", "a", "a/b", "0", "~", "/A", "/ä", "/\xff", "/a\tb", "/a\n", "/abcdefghijklmnopqrstuvwxyz"},
			[]string{"/a /b", " /a", "/a "},
		},
	}
	for _, x := range rightLines() {
		for i, kind := range x.form {
			for _, word := range kinds[kind].right {
				holdLine(t, with(x.line, 1+i, word))
			}
			for _, word := range kinds[kind].wrong {
				holdNoLine(t, with(x.line, 1+i, word))
			}
		}
	}
}

// P130: of all bytes just these are in words.
func TestBytesOfWords(t *testing.T) {
	for b := range 256 {
		letter := string([]byte{byte(b)})
		tell := holdNoLine
		if strings.Contains("abcdefghijklmnopqrstuvwxyz0123456789-.", letter) {
			tell = holdLine
		}
		tell(t, "make 0 0 "+letter)
		tell(t, "make 0 0 a"+letter+"a")
		tell(t, "move 0 4 0 "+letter)
		tell(t, "mark 0 4 "+letter+" v")
		tell(t, "mark 0 4 m "+letter)
		tell(t, "write 0 4 0 "+letter)
	}
}

// P130: what leads nowhere is no wrong line.
func TestOddPaths(t *testing.T) {
	pairs := []pair{{"make 0 0 a", "4"}, {"make 0 4 b", "8"}}
	for _, path := range []string{"a", "a/b", "//", "///", "/a/", "//a", "/a//b", "/A", "/a~4", "~", "4", "0", ".", "/.", "/..", "/a/..", "/ä", "\xff", "/a;", "/a\n"} {
		pairs = append(pairs, pair{"find 0 " + path, "nothing"})
	}
	hold(t, append(pairs, pair{"find 0 /", "0"}, pair{"find 0 /a/b", "8"}, pair{"find 0 ", isText}, pair{"find 0", isText})...)
}
