package vector_test

import (
	"math"
	"strings"
	"testing"

	"concordat/api"
	"concordat/vector"
)

func TestTexts(t *testing.T) {
	for _, c := range []struct {
		x    v
		text string
	}{
		{v{}, "0.0.0.0"},
		{v{1, 2, 3, 4}, "1.2.3.4"},
		{v{0, 12, 400, 3}, "0.12.400.3"},
		{v{10, 100, 20, 200}, "10.100.20.200"},
		{v{api.MaxOps, api.MaxOps, api.MaxOps, api.MaxOps}, "400.400.400.400"},
	} {
		if s := c.x.Text(); s != c.text {
			t.Errorf("%v: %q, not %q", c.x, s, c.text)
		}
		if x, err := vector.Read(c.text); x != c.x || err != nil {
			t.Errorf("%q: %v, %v, not %v", c.text, x, err, c.x)
		}
	}
}

// Text tells wrong vectors too: its sentence names no error.
func TestTextsOfWrongVectors(t *testing.T) {
	for _, c := range []struct {
		x    v
		text string
	}{
		{v{-1, 401, -400, 0}, "-1.401.-400.0"},
		{v{math.MinInt, math.MaxInt, 0, 12345}, "-9223372036854775808.9223372036854775807.0.12345"},
	} {
		if s := c.x.Text(); s != c.text {
			t.Errorf("%v: %q, not %q", c.x, s, c.text)
		}
	}
}

func TestReadIsTextTurnedRound(t *testing.T) {
	for _, x := range vectorsOf(0, 1, 9, 10, 99, 100, 399, api.MaxOps) {
		if back, err := vector.Read(x.Text()); back != x || err != nil {
			t.Errorf("%v: %q, %v, %v", x, x.Text(), back, err)
		}
	}
}

// P21, P3: bare, and with a zero vector.
func TestTextsThatAreNone(t *testing.T) {
	for _, s := range []string{
		"", ".", "...", "....", "1", "1.2", "1.2.3", "1.2.3.4.5", "1.2.3.4.", ".1.2.3.4", "1.2.3.", ".2.3.4", "1..3.4", "1.2..4", "1.2.3..4",
		"01.2.3.4", "1.2.3.04", "00.0.0.0", "0.0.0.00", "0.0.0.0000", "0.0.0001.0",
		"1.2.3.12345", "10000.2.3.4", "1.2.3.00001", "1.2.3.99999999999999999999",
		"1.2.3.-4", "-1.2.3.4", "-0.0.0.0", "+1.2.3.4", "1.2.3.+4",
		" 1.2.3.4", "1.2.3.4 ", "1. 2.3.4", "1.2.3.4\n", "1.2.3.4\x00",
		"a.2.3.4", "1.2.3.x", "1.2.3.1a", "1.2.3.0x1", "1.2.3.1e2", "1.2.3.1_0",
		"1,2,3,4", "1.2.3,4", "1:2:3:4", "1.2.3/4", "1.2.3.:", "1.2.3./", "1/.2.3.4",
		"1.2.3.\u0664", "\uff11.2.3.4", "1.2.3.\xff", "\x80.\x80.\x80.\x80",
		strings.Repeat("0.", 100000), strings.Repeat(".", 100000), strings.Repeat("1", 100000),
	} {
		if x, err := vector.Read(s); x != (v{}) || err != api.ErrText {
			t.Errorf("%.40q: %v, %v, not a zero vector, ErrText", s, x, err)
		}
	}
}

func TestTextsOutOfBounds(t *testing.T) {
	for _, c := range []struct {
		text string
		at   int
	}{
		{"401.0.0.0", 0}, {"0.401.0.0", 1}, {"0.0.1000.0", 2}, {"1.2.3.401", 3}, {"1.2.3.9999", 3},
		{"400.400.400.401", 3}, {"0.500.600.0", 1}, {"9999.9999.9999.9999", 0},
	} {
		if x, err := vector.Read(c.text); x != (v{}) || faultAt(err) != c.at {
			t.Errorf("%q: %v, %v at %d, not ErrBound at %d", c.text, x, err, faultAt(err), c.at)
		}
	}
}

// P3: of two errors the one that is named first is told, wherever its number stands.
func TestTextAheadOfBound(t *testing.T) {
	for _, s := range []string{"401.2.3.x", "401.2.3.04", "9999.2.3.", "401.2.3", "401.2.3.4.5", "x.2.3.401", "401.2.3.12345"} {
		if x, err := vector.Read(s); x != (v{}) || err != api.ErrText {
			t.Errorf("%q: %v, %v, not ErrText", s, x, err)
		}
	}
}

// Over all short texts of a few letters: what is read is told as just that text again.
func TestShortTexts(t *testing.T) {
	const letters = "019.-"
	read := 0
	var grow func(s string)
	grow = func(s string) {
		x, err := vector.Read(s)
		if err == nil {
			read++
			if x.Text() != s {
				t.Errorf("%q was read as %v", s, x)
			}
		} else if x != (v{}) {
			t.Errorf("%q: %v, %v", s, x, err)
		}
		if len(s) == 8 {
			return
		}
		for _, l := range letters {
			grow(s + string(l))
		}
	}
	grow("")
	// Of 7 letters: 3 numbers to the power of 4; of 8: 4 places for one number of two digits, that begins with 1 or 9.
	if want := 3*3*3*3 + 4*6*3*3*3; read != want {
		t.Errorf("%d texts were read, not %d", read, want)
	}
}

func FuzzRead(f *testing.F) {
	for _, s := range []string{"0.0.0.0", "1.2.3.401", "1.2.3", "01.2.3.4", "400.400.400.400"} {
		f.Add(s)
	}
	f.Fuzz(func(t *testing.T, s string) {
		x, err := vector.Read(s)
		if err == nil && (x.Text() != s || x.Check() != nil) {
			t.Errorf("%q was read as %v", s, x)
		}
		if err != nil && (x != (v{}) || err != api.ErrText && faultAt(err) < 0) {
			t.Errorf("%q: %v, %v", s, x, err)
		}
	})
}
