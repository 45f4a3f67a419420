package journal_test

import (
	"math"
	"strings"
	"testing"

	"concordat/api"
	"concordat/journal"
)

// The face that is given: a changed signature does not compile.
var (
	_ func(string) (*journal.Disk, error)   = journal.NewDisk
	_ func(*journal.Disk, int) error        = (*journal.Disk).Cut
	_ func(*journal.Disk)                   = (*journal.Disk).On
	_ func(*journal.Disk) bool              = (*journal.Disk).Power
	_ func(*journal.Disk) string            = (*journal.Disk).Bytes
	_ func(*journal.Disk, api.Op) error     = journal.Append
	_ func(string) ([]api.Op, int)          = journal.Read
	_ func(*journal.Disk) ([]api.Op, error) = journal.Recover
)

func newDisk(t *testing.T, b string) *journal.Disk {
	t.Helper()
	d, err := journal.NewDisk(b)
	if d == nil || err != nil {
		t.Fatalf("NewDisk of %d bytes: %v, %v", len(b), d, err)
	}
	return d
}

func holdDisk(t *testing.T, d *journal.Disk, power bool, bytes string) {
	t.Helper()
	if d.Power() != power {
		t.Errorf("power is %v, not %v", d.Power(), power)
	}
	if d.Bytes() != bytes {
		t.Errorf("there is %q, not %q", d.Bytes(), bytes)
	}
}

// holdErr: errors are bare here, so they are held against each other by !=, not by errors.Is.
func holdErr(t *testing.T, err, want error) {
	t.Helper()
	if err != want {
		t.Errorf("%v, not %v", err, want)
	}
}

func eachByte() string {
	l := make([]byte, 256)
	for i := range l {
		l[i] = byte(i)
	}
	return string(l)
}

// P80: any bytes, up to MaxBytes of them.
func TestNewDisk(t *testing.T) {
	for _, b := range []string{"", "x", "\n", "#", "\x00", eachByte(), record("m|1|0|1|4|0|a|"), strings.Repeat("x", api.MaxBytes-1), strings.Repeat("\xff", api.MaxBytes)} {
		d := newDisk(t, b)
		holdDisk(t, d, true, b)
		holdDisk(t, d, true, b)
	}
	for _, long := range []int{api.MaxBytes + 1, api.MaxBytes + 2, 10 * api.MaxBytes} {
		if d, err := journal.NewDisk(strings.Repeat("x", long)); d != nil || err != api.ErrBound {
			t.Errorf("%d bytes: %v, %v", long, d, err)
		}
	}
}

// A new disk's power does not fail by itself: as many bytes as there may be are written.
func TestNoCutWaitsFromTheBeginning(t *testing.T) {
	d := newDisk(t, "")
	for {
		err := journal.Append(d, first())
		if err == api.ErrFull {
			break
		}
		if err != nil || !d.Power() {
			t.Fatalf("behind %d bytes: %v, power %v", len(d.Bytes()), err, d.Power())
		}
	}
	if left := api.MaxBytes - len(d.Bytes()); left >= len(firstRecord) {
		t.Errorf("%d bytes were free yet", left)
	}
}

// P80: power is there until the byte behind the n bytes is to be written.
func TestCut(t *testing.T) {
	size := len(firstRecord)
	for n := range size {
		d := newDisk(t, "")
		holdErr(t, d.Cut(n), nil)
		holdDisk(t, d, true, "")
		holdErr(t, journal.Append(d, first()), api.ErrOff)
		holdDisk(t, d, false, firstRecord[:n])
	}
	d := newDisk(t, "")
	holdErr(t, d.Cut(size), nil)
	holdErr(t, journal.Append(d, first()), nil)
	holdDisk(t, d, true, firstRecord)
	holdErr(t, journal.Append(d, second()), api.ErrOff)
	holdDisk(t, d, false, firstRecord)
}

// Those bytes count that are written behind the Cut; those that were there do not.
func TestCutCountsWhatIsWritten(t *testing.T) {
	size := len(firstRecord)
	for n := range 3*size + 1 {
		d := newDisk(t, "x\ny")
		holdErr(t, journal.Append(d, first()), nil)
		holdErr(t, d.Cut(n), nil)
		whole := 0
		for journal.Append(d, first()) == nil {
			whole++
		}
		if whole != n/size {
			t.Errorf("cut at %d: %d records of %d bytes", n, whole, size)
		}
		holdDisk(t, d, false, "x\ny"+firstRecord+strings.Repeat(firstRecord, 4)[:n])
	}
}

func TestCutFarAway(t *testing.T) {
	for _, n := range []int{api.MaxBytes, 1 << 32, math.MaxInt} {
		d := newDisk(t, "")
		holdErr(t, d.Cut(n), nil)
		for range 100 {
			holdErr(t, journal.Append(d, first()), nil)
		}
		holdDisk(t, d, true, strings.Repeat(firstRecord, 100))
	}
}

func TestCutBelowZero(t *testing.T) {
	for _, n := range []int{-1, -2, -1 << 32, math.MinInt} {
		d := newDisk(t, "x")
		holdErr(t, d.Cut(n), api.ErrBound)
		holdDisk(t, d, true, "x")
		holdErr(t, journal.Append(d, first()), nil)
		holdDisk(t, d, true, "x"+firstRecord)

		// P3: another Cut that waits stays as it was.
		holdErr(t, d.Cut(3), nil)
		holdErr(t, d.Cut(n), api.ErrBound)
		holdErr(t, journal.Append(d, first()), api.ErrOff)
		holdDisk(t, d, false, "x"+firstRecord+firstRecord[:3])

		// ErrBound is named ahead of ErrOff.
		holdErr(t, d.Cut(n), api.ErrBound)
	}
}

func TestCutWithoutPower(t *testing.T) {
	d := offDisk(t, "x")
	for _, n := range []int{0, 1, 1000, math.MaxInt} {
		holdErr(t, d.Cut(n), api.ErrOff)
		holdDisk(t, d, false, "x")
	}
	// P3: none of them waits.
	d.On()
	holdErr(t, journal.Append(d, first()), nil)
	holdDisk(t, d, true, "x"+firstRecord)
}

// offDisk: its power failed, and nothing was written on the way.
func offDisk(t *testing.T, b string) *journal.Disk {
	t.Helper()
	d := newDisk(t, b)
	holdErr(t, d.Cut(0), nil)
	holdErr(t, journal.Append(d, api.Op{S: api.Stamp{Time: 1}, N: 1, Kind: api.Insert, Value: "x"}), api.ErrOff)
	holdDisk(t, d, false, b)
	return d
}

// What a Cut says holds from then on, whatever one ahead of it said.
func TestCutAgain(t *testing.T) {
	for _, c := range []struct{ ahead, n int }{{0, 5}, {5, 0}, {3, 4}, {4, 3}, {7, 7}, {0, 1000}, {1000, 0}} {
		d := newDisk(t, "")
		holdErr(t, d.Cut(c.ahead), nil)
		holdErr(t, d.Cut(c.n), nil)
		holdDisk(t, d, true, "")
		want := firstRecord[:min(c.n, len(firstRecord))]
		if err := journal.Append(d, first()); (err == nil) != (want == firstRecord) {
			t.Errorf("%v: %v", c, err)
		}
		holdDisk(t, d, want == firstRecord, want)
	}
}

func TestOn(t *testing.T) {
	for n := range len(firstRecord) {
		d := newDisk(t, "x")
		holdErr(t, d.Cut(n), nil)
		holdErr(t, journal.Append(d, first()), api.ErrOff)
		d.On()
		torn := "x" + firstRecord[:n]
		holdDisk(t, d, true, torn)

		// The Cut that came does not come again.
		for i := range 5 {
			holdErr(t, journal.Append(d, first()), nil)
			holdDisk(t, d, true, torn+strings.Repeat(firstRecord, i+1))
		}
		holdErr(t, d.Cut(0), nil)
	}
}

func TestOnEndsACutThatWaits(t *testing.T) {
	for _, n := range []int{0, 1, 10, len(firstRecord), len(firstRecord) + 1} {
		d := newDisk(t, "")
		holdErr(t, d.Cut(n), nil)
		d.On()
		holdDisk(t, d, true, "")
		for range 5 {
			holdErr(t, journal.Append(d, first()), nil)
		}
		holdDisk(t, d, true, strings.Repeat(firstRecord, 5))
	}
}

func TestOnWithPower(t *testing.T) {
	d := newDisk(t, "x")
	for range 3 {
		d.On()
		holdDisk(t, d, true, "x")
	}
}

// NewDisk answers a nil disk beside its error: nothing of it panics.
func TestNilDisk(t *testing.T) {
	d, err := journal.NewDisk(strings.Repeat("x", api.MaxBytes+1))
	if d != nil || err != api.ErrBound {
		t.Fatalf("%v, %v", d, err)
	}
	d.On()
	holdDisk(t, d, false, "")
	holdErr(t, d.Cut(-1), api.ErrBound)
	holdErr(t, d.Cut(0), api.ErrOff)
}

// A disk that NewDisk did not make is handed over, too: it is an empty one.
func TestZeroDisk(t *testing.T) {
	d := new(journal.Disk)
	holdErr(t, journal.Append(d, first()), nil)
	holdDisk(t, d, true, firstRecord)
	holdRecover(t, new(journal.Disk), nil)
}

// P2: each disk is for itself.
func TestDisksAreApart(t *testing.T) {
	b := record("m|1|0|1|4|0|a|")
	a, c := newDisk(t, b), newDisk(t, b)
	holdErr(t, a.Cut(4), nil)
	holdErr(t, journal.Append(c, second()), nil)
	holdErr(t, journal.Append(a, second()), api.ErrOff)
	holdDisk(t, a, false, b+secondRecord[:4])
	holdDisk(t, c, true, b+secondRecord)
	holdRecover(t, a, []api.Op{first()})
	holdDisk(t, c, true, b+secondRecord)
}
