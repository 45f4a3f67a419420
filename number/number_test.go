package number_test

import (
	"strconv"
	"strings"
	"testing"

	"concordat/number"
)

func TestNumbers(t *testing.T) {
	for _, n := range []int{0, 1, 9, 10, 99, 100, 1234, 9999, 10000, 1<<32 + 3, 9999999999, 999999999999999999} {
		s := strconv.Itoa(n)
		if got, ok := number.Read(s, len(s)); got != n || !ok {
			t.Errorf("%s: %d, %v", s, got, ok)
		}
		if got, ok := number.Read(s, 18); got != n || !ok {
			t.Errorf("%s, at most 18: %d, %v", s, got, ok)
		}
		if got, ok := number.Read(s, len(s)-1); got != 0 || ok {
			t.Errorf("%s, at most %d: %d, %v", s, len(s)-1, got, ok)
		}
	}
}

func TestNoNumbers(t *testing.T) {
	for _, s := range []string{
		"", "-", "-0", "-1", "+1", " 1", "1 ", "1\n", "00", "01", "0001", "1a", "a1", "0x1", "1e2", "1_0", "1.0", "/", ":", "1/", "1:",
		"\x00", "\xff", "\u0661", "\uff11", strings.Repeat("1", 100000),
	} {
		if n, ok := number.Read(s, 10); n != 0 || ok {
			t.Errorf("%.40q: %d, %v", s, n, ok)
		}
	}
	for _, digits := range []int{-1, 0} {
		if n, ok := number.Read("1", digits); n != 0 || ok {
			t.Errorf("at most %d digits: %d, %v", digits, n, ok)
		}
	}
}
