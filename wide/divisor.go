package wide

import "wardmote/euclid"

// commonDivisor returns the greatest common divisor.
func (m magnitude) commonDivisor(n magnitude) magnitude {
	if m.compare(n) < 0 {
		m, n = n, m
	}
	for n.length() > 1 {
		m, n = reduce(m, n)
	}
	if n.isZero() {
		return m
	}
	_, remainder := m.divideByWord(n[0])
	return magnitude{wordDivisor(n[0], remainder)}
}

// wordDivisor returns the greatest common divisor of a and b.
func wordDivisor(a, b uint64) uint64 {
	for b != 0 {
		a, b = b, a%b
	}
	return a
}

// reduce returns two later remainders, one behind the other, of Euclid's algorithm from m and n on. m is not less than
// n, and n has more than one word.
func reduce(m, n magnitude) (magnitude, magnitude) {
	shift := m.bitLength() - wordBits
	first, second := euclid.Lines(m.right(shift)[0], n.right(shift)[0])
	if first.OfN == 0 {
		_, remainder := m.divide(n)
		return n, remainder
	}
	return remainder(first, m, n), remainder(second, m, n)
}

// remainder returns what l stands for. Products that leave 512 bits do no harm, since the remainder does not.
func remainder(l euclid.Line, m, n magnitude) magnitude {
	partOfM, _ := m.scaled(l.OfM, 0)
	partOfN, _ := n.scaled(l.OfN, 0)
	if l.Negated {
		return partOfN.difference(partOfM)
	}
	return partOfM.difference(partOfN)
}
