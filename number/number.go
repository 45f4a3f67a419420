// Package number reads numbers as the texts of the program have them: just as strconv.Itoa writes those from 0 on.
package number

// Read a number of at most so many digits; more than 18 may not fit.
func Read(s string, digits int) (int, bool) {
	if len(s) < 1 || len(s) > digits || s[0] == '0' && len(s) > 1 {
		return 0, false
	}
	n := 0
	for i := range len(s) {
		digit := s[i]
		if digit < '0' || digit > '9' {
			return 0, false
		}
		n = n*10 + int(digit-'0')
	}
	return n, true
}
