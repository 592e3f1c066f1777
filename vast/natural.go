package vast

import (
	"cmp"
	"math/bits"
	"strconv"
	"strings"

	"wardmote/api"
	"wardmote/wide"
)

// natural is an integer that is not negative: its words, the lowest one first, and none of them above the highest one
// that is not 0. No operation writes to its words.
type natural []uint64

// trimmed returns the natural with these words.
func trimmed(words []uint64) natural {
	for len(words) > 0 && words[len(words)-1] == 0 {
		words = words[:len(words)-1]
	}
	return words
}

func (m natural) isOne() bool {
	return len(m) == 1 && m[0] == 1
}

// compare returns -1, 0 or 1 if m is less than, equal to or greater than n.
func (m natural) compare(n natural) int {
	if len(m) != len(n) {
		return cmp.Compare(len(m), len(n))
	}
	at := len(m) - 1
	for at > 0 && m[at] == n[at] {
		at--
	}
	return cmp.Compare(m.word(at), n.word(at))
}

// word returns the word at an index, which is 0 outside of those that are stored.
func (m natural) word(at int) uint64 {
	if at < 0 || at >= len(m) {
		return 0
	}
	return m[at]
}

// sum returns m + n.
func (m natural) sum(n natural) natural {
	words := make([]uint64, max(len(m), len(n))+1)
	var carry uint64
	for i := range words {
		words[i], carry = bits.Add64(m.word(i), n.word(i), carry)
	}
	return trimmed(words)
}

// difference returns m - n, where n is at most m.
func (m natural) difference(n natural) natural {
	words := make([]uint64, len(m))
	var borrow uint64
	for i, word := range m {
		words[i], borrow = bits.Sub64(word, n.word(i), borrow)
	}
	return trimmed(words)
}

// product returns m times n.
func (m natural) product(n natural) natural {
	words := make([]uint64, len(m)+len(n))
	for i, word := range m {
		words[i+len(n)] = addMultiple(words[i:i+len(n)], n, word)
	}
	return trimmed(words)
}

// addMultiple adds n times factor to as many words, and returns the word above them.
func addMultiple(words []uint64, n natural, factor uint64) uint64 {
	var above uint64
	for i, word := range n {
		var carry, more uint64
		high, low := bits.Mul64(word, factor)
		low, carry = bits.Add64(low, above, 0)
		words[i], more = bits.Add64(words[i], low, 0)
		above = high + carry + more
	}
	return above
}

// wide returns m as a wide integer, and whether it is one.
func (m natural) wide() (a api.Wide, fits bool) {
	if len(m) > len(a) {
		return a, false
	}
	copy(a[:], m)
	return a, wide.Sign(a) >= 0
}

const (
	chunkDigits = 19
	chunk       = 10_000_000_000_000_000_000 // the greatest power of ten in a word
)

// digits returns the decimal digits of m.
func (m natural) digits() string {
	var chunks []uint64 // the lowest one first
	for i := len(m) - 1; i >= 0; i-- {
		next := m[i]
		for k, digits := range chunks {
			next, chunks[k] = bits.Div64(digits, next, chunk)
		}
		for ; next > 0; next /= chunk {
			chunks = append(chunks, next%chunk)
		}
	}
	if len(chunks) == 0 {
		return "0"
	}
	last := len(chunks) - 1
	var text strings.Builder
	text.WriteString(strconv.FormatUint(chunks[last], 10))
	for i := last - 1; i >= 0; i-- {
		text.WriteString(padded(strconv.FormatUint(chunks[i], 10), chunkDigits))
	}
	return text.String()
}

// padded returns digits with zeros in front, so that there are at least as many as size.
func padded(digits string, size int) string {
	return strings.Repeat("0", max(0, size-len(digits))) + digits
}
