package journal_test

import (
	"fmt"
	"hash/crc32"
	"regexp"
	"slices"
	"strings"
	"testing"

	"concordat/api"
	"concordat/journal"
	"concordat/op"
)

var likeRecord = regexp.MustCompile(`^([^#\n]*)#([0-9a-f]{8})\n`)

// readSlowly is P82 by other means than the program's.
func readSlowly(b string) ([]api.Op, int) {
	var l []api.Op
	size := 0
	for {
		parts := likeRecord.FindStringSubmatch(b[size:])
		if parts == nil || fmt.Sprintf("%08x", crc32.ChecksumIEEE([]byte(parts[1]))) != parts[2] {
			return l, size
		}
		o, err := op.Read(parts[1])
		if err != nil {
			return l, size
		}
		l = append(l, o)
		size += len(parts[0])
	}
}

func holdRead(t *testing.T, b string, want []api.Op, size int) {
	t.Helper()
	if l, n := journal.Read(b); !slices.Equal(l, want) || n != size {
		t.Errorf("%.200q: %v, %d, not %v, %d", b, l, n, want, size)
	}
}

func TestRead(t *testing.T) {
	holdRead(t, "", nil, 0)
	l := append(few(), few()...)
	for i := range len(l) + 1 {
		b := recordsOf(t, l[:i])
		holdRead(t, b, l[:i], len(b))
	}
}

// Read goes by what stands there alone: what a replica would make of it is nothing to it.
func TestReadInAnyOrder(t *testing.T) {
	l := few()
	slices.Reverse(l)
	b := recordsOf(t, l)
	holdRead(t, b+b, append(slices.Clone(l), l...), 2*len(b))
}

// P82 names no bound: also more than a disk has.
func TestReadOfMoreThanADisk(t *testing.T) {
	many := 3 * api.MaxBytes / len(firstRecord)
	b := strings.Repeat(firstRecord, many)
	holdRead(t, b, slices.Repeat([]api.Op{first()}, many), len(b))
	holdRead(t, b+"x", slices.Repeat([]api.Op{first()}, many), len(b))
}

// noRecords begin with none, each for one reason.
func noRecords() []string {
	const text = "m|1|0|1|4|0|a|"
	sum := firstRecord[len(text)+1 : len(firstRecord)-1]
	return []string{
		"x", "\n", "#", "\x00", " ", "\r\n", "#00000000\n", "\n\n", "what\n", eachByte(),
		text, text + "\n", text + "#", text + "#\n", sum, sum + "\n",
		// The line break.
		text + "#" + sum, text + "#" + sum + "\r\n", text + "#" + sum + " \n", text + "#" + sum + "\r", text + "#" + sum + "\x00", text + "\n#" + sum, text + "#\n" + sum + "\n", text + "#" + sum + "#\n",
		// What is between text and sum.
		text + sum + "\n", text + "##" + sum + "\n", text + "|" + sum + "\n", text + " #" + sum + "\n", text + "# " + sum + "\n", text + "\n" + sum + "\n",
		// The sum's digits.
		text + "#" + strings.ToUpper(sum) + "\n", text + "#" + sum[:7] + "\n", text + "#" + sum[1:] + "\n", text + "#0" + sum + "\n", text + "#" + sum + "0\n", text + "#0x" + sum + "\n", text + "#00000000\n", text + "#ffffffff\n",
		"m|124|0|1|496|0|a|#edd1dd\n", "m|124|0|1|496|0|a|#  edd1dd\n", "m|124|0|1|496|0|a|#edd1dd00\n",
		// What the sum is of: the text alone, all of it; begun with all bits, turned at the end.
		text + sumOf(text+"#"), text + sumOf(text[1:]), text + sumOf(""), text + fmt.Sprintf("#%08x\n", ^crc32.ChecksumIEEE([]byte(text))), text + fmt.Sprintf("#%08x\n", crc32.Update(^uint32(0), crc32.IEEETable, []byte(text))), text + fmt.Sprintf("#%08x\n", crc32.Checksum([]byte(text), crc32.MakeTable(crc32.Castagnoli))),
		// The sum is right: the text is none, or one of a wrong operation.
		record(""), record("what"), record("m"), record("|||||||"), record(text + "#"), record("#" + text), record(" " + text), record(text + " "), record("\n" + text), record(text + "\n"), record(text + "\r"),
		record("m|01|0|1|4|0|a|"), record("m|+1|0|1|4|0|a|"), record("m|1|0|1|4|0|a"), record("m|1|0|1|4|0|a||"), record("i|2|1|1|4|0||4A"), record("i|2|1|1|4|0||4"),
		record("m|0|0|1|4|0|a|"), record("m|1|4|1|4|0|a|"), record("m|1|0|0|4|0|a|"), record("m|1|0|401|4|0|a|"), record("x|1|0|1|4|0|a|"), record("m|1|0|1|5|0|a|"), record("m|1|0|1|4|0|A|"), record("m|1|0|1|4|0|a|61"), record("d|2|1|1|4|0||"),
		record("m|1|0|1|4|0|" + strings.Repeat("a", api.MaxBytes/2) + "|"), record(text + text),
		// Another one's sum.
		strings.Replace(firstRecord, "m|1", "m|2", 1), strings.Replace(firstRecord, "|a|", "|b|", 1), text + secondRecord[len("i|2|1|1|4|0||48"):],
		strings.ToUpper(firstRecord), " " + firstRecord, "\n" + firstRecord, "x" + firstRecord, "#" + firstRecord, firstRecord[1:], strings.Repeat("m", 1<<20), strings.Repeat("#", 1<<20), strings.Repeat("\n", 1<<20), strings.Repeat("|", 1<<20),
	}
}

func sumOf(s string) string { return record(s)[len(s):] }

// P82: reading ends at the first that is none, also if records stand behind it.
func TestReadUpToWhatIsNoRecord(t *testing.T) {
	l := few()
	b := recordsOf(t, l)
	for _, s := range noRecords() {
		holdRead(t, s, nil, 0)
		holdRead(t, b+s, l, len(b))
		holdRead(t, firstRecord+s+secondRecord, []api.Op{first()}, len(firstRecord))
	}
}

// Each piece of a journal that begins with it: all records that are whole.
func TestReadOfEachPiece(t *testing.T) {
	l := few()
	b := recordsOf(t, l)
	for n := range len(b) + 1 {
		whole := strings.Count(b[:n], "\n")
		holdRead(t, b[:n], l[:whole], len(recordsOf(t, l[:whole])))
	}
}

// Of a journal all that are one byte away: one that is changed, one more, one less.
func TestReadNearby(t *testing.T) {
	l := few()[:4]
	b := recordsOf(t, l)
	for i := range len(b) + 1 {
		for x := range 256 {
			holdReadSlowly(t, b[:i]+string([]byte{byte(x)})+b[i:])
			if i < len(b) {
				changed := b[:i] + string([]byte{byte(x)}) + b[i+1:]
				holdReadSlowly(t, changed)
				if _, n := journal.Read(changed); changed != b && n > i {
					t.Errorf("byte %d at %d is not seen in %q", x, i, changed)
				}
			}
		}
		if i < len(b) {
			holdReadSlowly(t, b[:i]+b[i+1:])
		}
	}
}

func holdReadSlowly(t *testing.T, b string) {
	t.Helper()
	l, size := readSlowly(b)
	holdRead(t, b, l, size)
}

// P4: what is answered is new memory.
func TestReadAnswersNewMemory(t *testing.T) {
	b := recordsOf(t, few())
	l, _ := journal.Read(b)
	clear(l)
	holdRead(t, b, few(), len(b))
}

func FuzzRead(f *testing.F) {
	for _, o := range few() {
		text, err := op.Text(o)
		if err != nil {
			f.Fatal(err)
		}
		f.Add(record(text), text)
	}
	f.Add("", "")
	f.Add(firstRecord+secondRecord, firstRecord[:9])
	f.Fuzz(func(t *testing.T, b, text string) {
		holdReadSlowly(t, b)
		holdReadSlowly(t, b+text)
		// A right sum is not found by chance.
		holdReadSlowly(t, b+record(text))
		holdReadSlowly(t, record(text)+b)
	})
}
