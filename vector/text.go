package vector

import (
	"strconv"
	"strings"

	"concordat/api"
)

const (
	between   = "."
	maxDigits = 4
)

// Text of a vector.
func (v Vector) Text() string {
	var numbers [api.Replicas]string
	for i, n := range v {
		numbers[i] = strconv.Itoa(n)
	}
	return strings.Join(numbers[:], between)
}

// Read a vector.
func Read(s string) (Vector, error) {
	// One piece more than a vector has shows that there are too many: a long text needs no more.
	numbers := strings.SplitN(s, between, api.Replicas+1)
	if len(numbers) != api.Replicas {
		return Vector{}, api.ErrText
	}
	var v Vector
	for i, number := range numbers {
		n, ok := readNumber(number)
		if !ok {
			return Vector{}, api.ErrText
		}
		v[i] = n
	}
	// Behind the loop, for ErrText of a later number is told ahead of ErrBound of an earlier one.
	if err := v.Check(); err != nil {
		return Vector{}, err
	}
	return v, nil
}

func readNumber(s string) (int, bool) {
	if len(s) < 1 || len(s) > maxDigits || s[0] == '0' && len(s) > 1 {
		return 0, false
	}
	n := 0
	for i := range len(s) {
		digit := s[i]
		if digit < '0' || digit > '9' {
			return 0, false
		}
		n = n*10 + int(digit-'0')
	}
	return n, true
}
