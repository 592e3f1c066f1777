package vast

import (
	"math/bits"

	"wardmote/euclid"
	"wardmote/wide"
)

// commonDivisor returns the greatest common divisor of m and n.
func (m natural) commonDivisor(n natural) natural {
	if m.isOne() || n.isOne() {
		return natural{1}
	}
	if m.compare(n) < 0 {
		m, n = n, m
	}
	// Package wide does the rest as soon as it can, since it needs no new memory for each step.
	second, fits := n.wide()
	for !fits {
		m, n = reduce(m, n)
		second, fits = n.wide()
	}
	if len(n) == 0 {
		return m
	}
	first, fits := m.wide()
	if !fits {
		first, _ = m.modulo(n).wide()
	}
	divisor, _ := wide.Gcd(first, second)
	return trimmed(divisor[:])
}

// reduce returns two later remainders, one behind the other, of Euclid's algorithm from m and n on. m is not less than
// n, which is not 0.
func reduce(m, n natural) (natural, natural) {
	first, second := euclid.Lines(leading(m, n))
	if first.OfN == 0 {
		return n, m.modulo(n)
	}
	return remainder(first, m, n), remainder(second, m, n)
}

// leading returns the word of m from its highest bit on, and the one of n at the same place.
func leading(m, n natural) (ofM, ofN uint64) {
	top := len(m) - 1
	free := bits.LeadingZeros64(m[top])
	word := func(k natural) uint64 {
		return k.word(top)<<free | k.word(top-1)>>(wordBits-free)
	}
	return word(m), word(n)
}

// remainder returns what l stands for.
func remainder(l euclid.Line, m, n natural) natural {
	if l.Negated {
		return combined(n, l.OfN, m, l.OfM)
	}
	return combined(m, l.OfM, n, l.OfN)
}

// combined returns m times ofM less n times ofN, which is not negative, and has no more words than both m and n.
func combined(m natural, ofM uint64, n natural, ofN uint64) natural {
	words := make([]uint64, max(len(m), len(n)))
	var more, less, borrow uint64
	for i := range words {
		var plus, minus uint64
		more, plus = scaled(m.word(i), ofM, more)
		less, minus = scaled(n.word(i), ofN, less)
		words[i], borrow = bits.Sub64(plus, minus, borrow)
	}
	return trimmed(words)
}

// scaled returns a word times a factor, plus extra.
func scaled(word, factor, extra uint64) (high, low uint64) {
	high, low = bits.Mul64(word, factor)
	low, carry := bits.Add64(low, extra, 0)
	return high + carry, low
}
