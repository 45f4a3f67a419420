package journal_test

import (
	"slices"
	"strings"
	"sync"
	"testing"

	"concordat/api"
	"concordat/journal"
	"concordat/replica"
)

// holdRecover: these operations, with power, and with just their records left.
func holdRecover(t *testing.T, d *journal.Disk, want []api.Op) {
	t.Helper()
	if l, err := journal.Recover(d); !slices.Equal(l, want) || err != nil {
		t.Errorf("recovered: %v, %v, not %v", l, err, want)
	}
	holdDisk(t, d, true, recordsOf(t, want))
}

func TestRecover(t *testing.T) {
	l := few()
	for i := range len(l) + 1 {
		d := newDisk(t, "")
		for _, o := range l[:i] {
			holdErr(t, journal.Append(d, o), nil)
		}
		for range 3 {
			holdRecover(t, d, l[:i])
		}
	}
}

func TestRecoverOfNoDisk(t *testing.T) {
	if l, err := journal.Recover(nil); len(l) != 0 || err != api.ErrShape {
		t.Errorf("%v, %v", l, err)
	}
}

// P82: what is behind the records goes, whatever it is; what is appended then goes right behind them.
func TestRecoverOfWhatIsNoRecord(t *testing.T) {
	for _, s := range noRecords() {
		for _, l := range [][]api.Op{nil, {first()}, few()} {
			b := recordsOf(t, l) + s
			if len(b) > api.MaxBytes {
				continue
			}
			d := newDisk(t, b)
			holdRecover(t, d, l)
			holdErr(t, journal.Append(d, second()), nil)
			holdRecover(t, d, append(slices.Clone(l), second()))
		}
	}
}

// P82: power is On: that ends a Cut that waits, too, also where power was there.
func TestRecoverTurnsPowerOn(t *testing.T) {
	for _, n := range []int{0, 1, 5, len(secondRecord)} {
		d := newDisk(t, firstRecord)
		holdErr(t, d.Cut(n), nil)
		holdRecover(t, d, []api.Op{first()})
		for range 3 {
			holdErr(t, journal.Append(d, second()), nil)
		}
		holdRecover(t, d, []api.Op{first(), second(), second(), second()})
	}
	d := offDisk(t, firstRecord)
	holdRecover(t, d, []api.Op{first()})
	holdErr(t, d.Cut(0), nil)
}

// What goes makes room.
func TestRecoverMakesRoom(t *testing.T) {
	d := newDisk(t, firstRecord+strings.Repeat("x", api.MaxBytes-len(firstRecord)))
	holdErr(t, journal.Append(d, second()), api.ErrFull)
	holdRecover(t, d, []api.Op{first()})
	holdErr(t, journal.Append(d, second()), nil)
	holdRecover(t, d, []api.Op{first(), second()})
}

func TestRecoverOfAFullDisk(t *testing.T) {
	many := api.MaxBytes / len(firstRecord)
	for _, torn := range []int{0, 1, api.MaxBytes - many*len(firstRecord)} {
		d := newDisk(t, strings.Repeat(firstRecord, many)+firstRecord[:torn])
		holdRecover(t, d, slices.Repeat([]api.Op{first()}, many))
	}
}

// appendUntilOff appends these, and tells how many were written whole.
func appendUntilOff(t *testing.T, d *journal.Disk, l []api.Op) int {
	t.Helper()
	for i, o := range l {
		if err := journal.Append(d, o); err != nil {
			holdErr(t, err, api.ErrOff)
			return i
		}
	}
	return len(l)
}

// P83: cut at each byte, recovered, and the rest appended from the one in flight on.
func TestCutAnywhere(t *testing.T) {
	l := few()
	all := recordsOf(t, l)
	for n := range len(all) + 2 {
		d := newDisk(t, "")
		holdErr(t, d.Cut(n), nil)
		whole := appendUntilOff(t, d, l)
		holdDisk(t, d, n >= len(all), all[:min(n, len(all))])
		if want := strings.Count(d.Bytes(), "\n"); whole != want {
			t.Fatalf("cut at %d: %d were appended, and %d are whole", n, whole, want)
		}
		holdRecover(t, d, l[:whole])
		if more := appendUntilOff(t, d, l[whole:]); whole+more != len(l) {
			t.Fatalf("cut at %d: power failed again, behind %d", n, whole+more)
		}
		holdRecover(t, d, l)
	}
}

// P83: cut again, at each byte, behind what was recovered.
func TestCutTwiceAnywhere(t *testing.T) {
	l := few()[:3]
	all := recordsOf(t, l)
	for n := range len(all) {
		for m := range len(all) {
			d := newDisk(t, "")
			whole := 0
			for _, cut := range []int{n, m} {
				holdErr(t, d.Cut(cut), nil)
				whole += appendUntilOff(t, d, l[whole:])
				holdRecover(t, d, l[:whole])
			}
			appendUntilOff(t, d, l[whole:])
			holdRecover(t, d, l)
		}
	}
}

// P83: power fails over and over, each time so many bytes later.
func TestCutOverAndOver(t *testing.T) {
	for n := range 150 {
		d := newDisk(t, "")
		var appended []api.Op
		for i := range 100 {
			holdErr(t, d.Cut((n+i*7)%150), nil)
			l := append(few()[i%8:], few()[:i%8]...)
			appended = append(appended, l[:appendUntilOff(t, d, l)]...)
			if l, err := journal.Recover(d); !slices.Equal(l, appended) || err != nil {
				t.Fatalf("%d, round %d: %v, %v, not %v", n, i, l, err, appended)
			}
		}
		holdDisk(t, d, true, recordsOf(t, appended))
	}
}

// A torn piece stays with On alone: what was appended ahead of it is recovered, and nothing of the one in flight.
func TestOnWithoutRecover(t *testing.T) {
	for _, flying := range few() {
		for n := 1; n < len(recordOf(t, flying)); n++ {
			d := newDisk(t, "")
			holdErr(t, journal.Append(d, first()), nil)
			holdErr(t, d.Cut(n), nil)
			holdErr(t, journal.Append(d, flying), api.ErrOff)
			d.On()
			holdErr(t, journal.Append(d, second()), nil)
			holdDisk(t, d, true, firstRecord+recordOf(t, flying)[:n]+secondRecord)
			holdRecover(t, d, []api.Op{first()})
		}
	}
}

// P4: what was recovered may be written into.
func TestRecoverAnswersNewMemory(t *testing.T) {
	d := newDisk(t, recordsOf(t, few()))
	l, err := journal.Recover(d)
	holdErr(t, err, nil)
	clear(l)
	holdRecover(t, d, few())
}

// P2: disks side by side answer as one after the other.
func TestSideBySide(t *testing.T) {
	told := make([]string, 8)
	var all sync.WaitGroup
	for i := range told {
		all.Go(func() {
			d, _ := journal.NewDisk("")
			for n := range 200 {
				d.Cut(n % 60)
				journal.Append(d, first())
				journal.Append(d, second())
				journal.Recover(d)
			}
			told[i] = d.Bytes()
		})
	}
	all.Wait()
	if told[0] == "" || slices.ContainsFunc(told, func(s string) bool { return s != told[0] }) {
		t.Errorf("they are not the same: %q", told)
	}
}

// A replica that a disk keeps is the same behind a cut, but for what was in flight.
func TestReplicaIsKept(t *testing.T) {
	for n := range 300 {
		r, _ := replica.New(2)
		d := newDisk(t, "")
		holdErr(t, d.Cut(n), nil)
		for i := range 10 {
			o, err := r.Make(api.Root, "a")
			if i > 0 {
				o, err = r.Write(6, 0, 'x')
			}
			holdErr(t, err, nil)
			if journal.Append(d, o) != nil {
				break
			}
			if _, err := r.Join([]api.Op{o}); err != nil {
				t.Fatal(err)
			}
		}
		l, err := journal.Recover(d)
		holdErr(t, err, nil)
		again, _ := replica.New(2)
		if many, err := again.Join(l); many != len(l) || err != nil || again.State() != r.State() || again.Vector() != r.Vector() {
			t.Fatalf("cut at %d: %d, %v, %q, not %q", n, many, err, again.State(), r.State())
		}
	}
}
