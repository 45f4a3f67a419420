package op

import (
	"strconv"
	"strings"

	"concordat/api"
	"concordat/number"
)

const (
	between   = "|"
	parts     = 8
	maxDigits = 10
	hexDigits = "0123456789abcdef"
)

// Text of an operation.
func Text(o api.Op) (string, error) {
	if err := Check(o); err != nil {
		return "", err
	}
	return strings.Join([]string{
		string(rune(o.Kind)),
		strconv.Itoa(o.S.Time), strconv.Itoa(o.S.By), strconv.Itoa(o.N),
		strconv.Itoa(o.Node), strconv.Itoa(o.Other),
		o.Name, hexText(o.Value),
	}, between), nil
}

// Read an operation.
func Read(s string) (api.Op, error) {
	o, ok := readParts(s)
	if !ok {
		return api.Op{}, api.ErrText
	}
	if err := Check(o); err != nil {
		return api.Op{}, err
	}
	return o, nil
}

// readParts takes a text apart; what stands in the parts may be wrong yet.
func readParts(s string) (api.Op, bool) {
	// One part more than an operation has shows that there are too many: a long text needs no more.
	l := strings.SplitN(s, between, parts+1)
	if len(l) != parts || len(l[0]) != 1 {
		return api.Op{}, false
	}
	var n [5]int
	for i := range n {
		x, ok := number.Read(l[1+i], maxDigits)
		if !ok {
			return api.Op{}, false
		}
		n[i] = x
	}
	value, ok := readHex(l[7])
	if !ok {
		return api.Op{}, false
	}
	return api.Op{S: api.Stamp{Time: n[0], By: n[1]}, N: n[2], Kind: l[0][0], Node: n[3], Other: n[4], Name: l[6], Value: value}, true
}

func hexText(s string) string {
	l := make([]byte, 0, 2*len(s))
	for i := range len(s) {
		l = append(l, hexDigits[s[i]>>4], hexDigits[s[i]&15])
	}
	return string(l)
}

func readHex(s string) (string, bool) {
	if len(s)%2 != 0 {
		return "", false
	}
	l := make([]byte, 0, len(s)/2)
	for i := 0; i < len(s); i += 2 {
		high, low := strings.IndexByte(hexDigits, s[i]), strings.IndexByte(hexDigits, s[i+1])
		if high < 0 || low < 0 {
			return "", false
		}
		l = append(l, byte(high<<4|low))
	}
	return string(l), true
}
