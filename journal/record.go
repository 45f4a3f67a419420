package journal

import (
	"strconv"
	"strings"

	"concordat/api"
	"concordat/op"
)

const (
	polynomial = 0xEDB88320
	sumDigits  = 8
	aheadOfSum = "#"
	lineBreak  = "\n"
)

// record of an operation's text.
func record(text string) string { return text + aheadOfSum + sumText(text) + lineBreak }

// readRecord reads the one at the beginning, and tells how many bytes it has.
func readRecord(b string) (api.Op, int, bool) {
	text, _, _ := strings.Cut(b, aheadOfSum)
	o, err := op.Read(text)
	if err != nil {
		return api.Op{}, 0, false
	}
	// An operation has one text, and so one record: nothing else may stand there.
	r := record(text)
	if !strings.HasPrefix(b, r) {
		return api.Op{}, 0, false
	}
	return o, len(r), true
}

func sumText(s string) string {
	digits := strconv.FormatUint(uint64(sum(s)), 16)
	return strings.Repeat("0", sumDigits-len(digits)) + digits
}

func sum(s string) uint32 {
	rest := ^uint32(0)
	for i := range len(s) {
		rest = divide(rest ^ uint32(s[i]))
	}
	return ^rest
}

// divide what is left by the polynomial, for the eight bits of one byte.
func divide(rest uint32) uint32 {
	for range 8 {
		low := rest & 1
		rest >>= 1
		if low == 1 {
			rest ^= polynomial
		}
	}
	return rest
}
