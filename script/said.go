package script

import (
	"concordat/number"
	"concordat/op"
)

// What a word behind a command's name may be; a command's form is a row of these.
const (
	aReplica = 'D'
	aNumber  = 'N'
	aWord    = 'W'
	aLetter  = 'L' // a word of one byte
	aPath    = 'P'
)

const maxDigits = 7

// said by a line behind its command's name: each kind in its order.
type said struct {
	replicas, numbers []int
	words             []string
}

// read words that should have this form.
func read(form string, words []string) (said, bool) {
	if len(words) != len(form) {
		return said{}, false
	}
	var s said
	for i, word := range words {
		if !s.take(form[i], word) {
			return said{}, false
		}
	}
	return s, true
}

// take one word, if it is of this kind.
func (s *said) take(kind byte, word string) bool {
	switch kind {
	case aReplica:
		n, ok := number.Read(word, maxDigits)
		s.replicas = append(s.replicas, n)
		return ok && n < replicas
	case aNumber:
		n, ok := number.Read(word, maxDigits)
		s.numbers = append(s.numbers, n)
		return ok
	}
	s.words = append(s.words, word)
	return isText(kind, word)
}

// isText: is it a word of this kind, of those that are no numbers?
func isText(kind byte, word string) bool {
	switch kind {
	case aWord:
		return op.IsName(word)
	case aLetter:
		return op.IsName(word) && len(word) == 1
	case aPath:
		// Whatever stands there may be looked for: what leads nowhere is told as such. But a blank is between two words, so something stands there.
		return word != ""
	}
	return false
}
