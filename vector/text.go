package vector

import (
	"strconv"
	"strings"

	"concordat/api"
	"concordat/number"
)

const (
	between   = "."
	maxDigits = 4
)

// Text of a vector.
func (v Vector) Text() string {
	var numbers [api.Replicas]string
	for i, n := range v {
		numbers[i] = strconv.Itoa(n)
	}
	return strings.Join(numbers[:], between)
}

// Read a vector.
func Read(s string) (Vector, error) {
	// One piece more than a vector has shows that there are too many: a long text needs no more.
	parts := strings.SplitN(s, between, api.Replicas+1)
	if len(parts) != api.Replicas {
		return Vector{}, api.ErrText
	}
	var v Vector
	for i, part := range parts {
		n, ok := number.Read(part, maxDigits)
		if !ok {
			return Vector{}, api.ErrText
		}
		v[i] = n
	}
	// Behind the loop, for ErrText of a later number is told ahead of ErrBound of an earlier one.
	if err := v.Check(); err != nil {
		return Vector{}, err
	}
	return v, nil
}
