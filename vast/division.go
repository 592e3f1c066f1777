package vast

import "math/bits"

const wordBits = 64

// over returns the quotient of m by n, which is not 0, without the remainder.
func (m natural) over(n natural) natural {
	if n.isOne() {
		return m
	}
	quotient, _ := m.divide(n)
	return quotient
}

// modulo returns the remainder of m by n, which is not 0.
func (m natural) modulo(n natural) natural {
	_, remainder := m.divide(n)
	return remainder
}

// divide returns quotient and remainder of m by n, which is not 0: long division, with words as digits.
func (m natural) divide(n natural) (quotient, remainder natural) {
	size := len(n)
	if len(m) < size {
		return nil, m
	}
	// Both are doubled until the divisor's highest bit is set: this is what makes the guesses good.
	times := bits.LeadingZeros64(n[size-1])
	rest, divisor := m.doubled(times), n.doubled(times)[:size]
	quotient = make([]uint64, len(m)-size+1)
	for at := len(quotient) - 1; at >= 0; at-- {
		quotient[at] = takeAll(rest[at:at+size+1], divisor)
	}
	return trimmed(quotient), trimmed(halved(rest[:size], times))
}

// doubled returns the words of m times 2^n, one more than m has; n is less than 64.
func (m natural) doubled(n int) []uint64 {
	words := make([]uint64, len(m)+1)
	for i, word := range m {
		words[i] |= word << n
		words[i+1] = word >> (wordBits - n)
	}
	return words
}

// halved divides the words by 2^n, in their place, without the remainder; n is less than 64.
func halved(words []uint64, n int) []uint64 {
	for i := range words {
		words[i] >>= n
		if i+1 < len(words) {
			words[i] |= words[i+1] << (wordBits - n)
		}
	}
	return words
}

// takeAll subtracts the divisor from rest as often as it can, and returns how often that was. The rest has one word
// more, and is less than the divisor times 2^64; the divisor's highest bit is set.
func takeAll(rest []uint64, divisor natural) uint64 {
	top := len(divisor)
	often := uint64(1<<wordBits - 1)
	if rest[top] < divisor[top-1] {
		often, _ = bits.Div64(rest[top], rest[top-1], divisor[top-1])
	}
	// A guess from the highest words is never too small, and at most 2 too large (Knuth, 4.3.1, theorem B).
	tooOften := take(rest, divisor, often)
	for tooOften {
		often--
		tooOften = !restore(rest, divisor)
	}
	return often
}

// take subtracts the divisor from rest so many times, and says whether that was too often: then rest, which should be
// negative, has wrapped around.
func take(rest []uint64, divisor natural, often uint64) bool {
	top := len(divisor)
	var above, borrow uint64
	for i, word := range divisor {
		var low uint64
		above, low = scaled(word, often, above)
		rest[i], borrow = bits.Sub64(rest[i], low, borrow)
	}
	rest[top], borrow = bits.Sub64(rest[top], above, borrow)
	return borrow > 0
}

// restore adds the divisor to rest, which has wrapped around, and says whether it is back.
func restore(rest []uint64, divisor natural) bool {
	var carry uint64
	for i := range rest {
		rest[i], carry = bits.Add64(rest[i], divisor.word(i), carry)
	}
	return carry > 0
}
