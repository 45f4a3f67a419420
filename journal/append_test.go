package journal_test

import (
	"fmt"
	"hash/crc32"
	"strings"
	"testing"

	"concordat/api"
	"concordat/journal"
	"concordat/op"
)

const (
	firstRecord  = "m|1|0|1|4|0|a|#86f1e4c1\n"
	secondRecord = "i|2|1|1|4|0||48#cc837792\n"
)

func first() api.Op { return api.Op{S: at(1, 0), N: 1, Kind: api.Move, Node: 4, Name: "a"} }
func second() api.Op {
	return api.Op{S: at(2, 1), N: 1, Kind: api.Insert, Node: 4, Value: "H"}
}

func at(time, by int) api.Stamp { return api.Stamp{Time: time, By: by} }

// record as the library's sum makes it.
func record(text string) string {
	return fmt.Sprintf("%s#%08x\n", text, crc32.ChecksumIEEE([]byte(text)))
}

func recordOf(t *testing.T, o api.Op) string {
	t.Helper()
	text, err := op.Text(o)
	if err != nil {
		t.Fatalf("%#v: %v", o, err)
	}
	return record(text)
}

func recordsOf(t *testing.T, l []api.Op) string {
	t.Helper()
	var b strings.Builder
	for _, o := range l {
		b.WriteString(recordOf(t, o))
	}
	return b.String()
}

// few are of each kind, with the shortest and the longest texts among them.
func few() []api.Op {
	return []api.Op{
		first(), second(),
		{S: at(3, 2), N: 1, Kind: api.Set, Node: 4, Name: "color", Value: "a|b#c~ "},
		{S: at(3, 3), N: 400, Kind: api.Delete, Node: 4, Other: 9},
		{S: at(1, 0), N: 1, Kind: api.Delete, Other: 1},
		{S: at(api.MaxTime, 3), N: 400, Kind: api.Move, Node: 1<<32 + 3, Other: 1<<32 + 2, Name: "0123456789.-"},
		{S: at(api.MaxTime, 3), N: 400, Kind: api.Set, Node: 1<<32 + 2, Name: "abcdefghijkl", Value: "############"},
		{S: at(7, 0), N: 2, Kind: api.Set, Node: 4, Name: "-"},
	}
}

// P81, word by word: these sums were worked out apart from the program.
func TestRecords(t *testing.T) {
	for _, c := range []struct {
		o    api.Op
		want string
	}{
		{first(), firstRecord}, {second(), secondRecord},
		{api.Op{S: at(3, 2), N: 1, Kind: api.Set, Node: 4, Name: "color", Value: "a|b#c"}, "s|3|2|1|4|0|color|617c622363#34b2588d\n"},
		{api.Op{S: at(1, 0), N: 1, Kind: api.Delete, Other: 1}, "d|1|0|1|0|1||#3d8dcf4c\n"},
		{api.Op{S: at(124, 0), N: 1, Kind: api.Move, Node: 496, Name: "a"}, "m|124|0|1|496|0|a|#00edd1dd\n"},
	} {
		d := newDisk(t, "")
		holdErr(t, journal.Append(d, c.o), nil)
		holdDisk(t, d, true, c.want)
	}
}

// P81: of many operations, among them such whose sums begin with zeros.
func TestSums(t *testing.T) {
	zeros := [8]int{}
	for time := 2; time < 2000; time++ {
		o := api.Op{S: at(time, time%4), N: 1 + time%400, Kind: api.Set, Node: time, Name: "m", Value: string(rune(32 + time%95))}
		want := recordOf(t, o)
		d := newDisk(t, "")
		holdErr(t, journal.Append(d, o), nil)
		holdDisk(t, d, true, want)
		_, sum, _ := strings.Cut(want, "#")
		zeros[len(sum)-len(strings.TrimLeft(sum, "0"))]++
	}
	if zeros[0] == 0 || zeros[1] == 0 || zeros[2] == 0 {
		t.Errorf("so many sums begin with no, one, two zeros: %v", zeros)
	}
}

// One behind the other, in the order of the calls, whatever stands there, and also the same one again.
func TestAppendGoesBehind(t *testing.T) {
	for _, ahead := range []string{"", "x", "\n", "m|1|0|1|4|0|a|", firstRecord, firstRecord[:9], eachByte()} {
		d := newDisk(t, ahead)
		l := append(few(), few()...)
		for i, o := range l {
			holdErr(t, journal.Append(d, o), nil)
			holdDisk(t, d, true, ahead+recordsOf(t, l[:i+1]))
		}
	}
}

func wrongOps() []api.Op {
	return []api.Op{
		{},
		{S: at(1, 4), N: 1, Kind: api.Move, Node: 4, Name: "a"},
		{S: at(api.MaxTime+1, 0), N: 1, Kind: api.Move, Node: 4, Name: "a"},
		{S: at(1, 0), N: 0, Kind: api.Move, Node: 4, Name: "a"},
		{S: at(1, 0), N: api.MaxOps + 1, Kind: api.Move, Node: 4, Name: "a"},
		{S: at(1, 0), N: 1, Kind: 'x', Node: 4, Name: "a"},
		{S: at(1, 0), N: 1, Kind: api.Move, Node: 5, Name: "a"},
		{S: at(1, 0), N: 1, Kind: api.Move, Node: 4, Name: "a\n"},
		{S: at(1, 0), N: 1, Kind: api.Move, Node: 4, Name: ""},
		{S: at(2, 0), N: 1, Kind: api.Insert, Node: 4, Value: "\n"},
		{S: at(2, 0), N: 1, Kind: api.Insert, Node: 4, Name: "a", Value: "x"},
		{S: at(2, 0), N: 1, Kind: api.Delete, Node: 4},
		{S: at(2, 0), N: 1, Kind: api.Set, Node: 4, Other: 1, Name: "a"},
		{S: at(2, 0), N: 1, Kind: api.Set, Node: 4, Name: "a", Value: strings.Repeat("x", api.MaxName+1)},
		{S: at(2, 0), N: 1, Kind: api.Set, Node: 4, Name: strings.Repeat("x", 2*api.MaxBytes)},
	}
}

// P81: op.Check's errors are named ahead of all others; nothing is written, and a Cut that waits still does.
func TestAppendOfWrongOperations(t *testing.T) {
	full := strings.Repeat("x", api.MaxBytes)
	for _, o := range wrongOps() {
		want := op.Check(o)
		if want == nil {
			t.Fatalf("%#v is right", o)
		}
		holdErr(t, journal.Append(nil, o), want)
		for _, d := range []*journal.Disk{newDisk(t, ""), newDisk(t, firstRecord), newDisk(t, full)} {
			b := d.Bytes()
			holdErr(t, journal.Append(d, o), want)
			holdDisk(t, d, true, b)
		}
		d := offDisk(t, "x")
		holdErr(t, journal.Append(d, o), want)
		holdDisk(t, d, false, "x")

		d = newDisk(t, "")
		holdErr(t, d.Cut(0), nil)
		holdErr(t, journal.Append(d, o), want)
		holdDisk(t, d, true, "")
		holdErr(t, journal.Append(d, first()), api.ErrOff)
		holdDisk(t, d, false, "")
	}
}

func TestAppendToNoDisk(t *testing.T) {
	for _, o := range few() {
		holdErr(t, journal.Append(nil, o), api.ErrShape)
	}
}

// P81: up to MaxBytes, and not one byte more.
func TestAppendToAFullDisk(t *testing.T) {
	for _, o := range few() {
		size := len(recordOf(t, o))
		for free := range size + 3 {
			ahead := strings.Repeat("x", api.MaxBytes-free)
			d := newDisk(t, ahead)
			if free >= size {
				holdErr(t, journal.Append(d, o), nil)
				holdDisk(t, d, true, ahead+recordOf(t, o))
				holdErr(t, journal.Append(d, o), api.ErrFull)
				holdDisk(t, d, true, ahead+recordOf(t, o))
			} else {
				holdErr(t, journal.Append(d, o), api.ErrFull)
				holdDisk(t, d, true, ahead)
			}
		}
	}
}

// Nothing is written where there is no room: a Cut that waits still does, for all of its bytes.
func TestFullAheadOfOff(t *testing.T) {
	size := len(firstRecord)
	ahead := strings.Repeat("x", api.MaxBytes-size)
	longer := few()[5]
	for n := range size {
		d := newDisk(t, ahead)
		holdErr(t, d.Cut(n), nil)
		holdErr(t, journal.Append(d, longer), api.ErrFull)
		holdDisk(t, d, true, ahead)
		holdErr(t, journal.Append(d, first()), api.ErrOff)
		holdDisk(t, d, false, ahead+firstRecord[:n])
		holdErr(t, journal.Append(d, longer), api.ErrFull)
		holdDisk(t, d, false, ahead+firstRecord[:n])
	}
}

func TestAppendWithoutPower(t *testing.T) {
	for _, b := range []string{"", "x", firstRecord, firstRecord[:5]} {
		d := offDisk(t, b)
		for _, o := range few() {
			holdErr(t, journal.Append(d, o), api.ErrOff)
			holdDisk(t, d, false, b)
		}
	}
}

// P4: bytes that were told do not change with the disk.
func TestBytesStayAsTold(t *testing.T) {
	d := newDisk(t, firstRecord+"torn, and long enough for a record to come")
	told := d.Bytes()
	holdRecover(t, d, []api.Op{first()})
	holdErr(t, journal.Append(d, second()), nil)
	if told != firstRecord+"torn, and long enough for a record to come" {
		t.Errorf("they became %q", told)
	}
}
