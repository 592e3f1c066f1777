package wide

// commonDivisor returns the greatest common divisor.
func (m magnitude) commonDivisor(n magnitude) magnitude {
	if m.compare(n) < 0 {
		m, n = n, m
	}
	for n.length() > 1 {
		m, n = reduce(m, n)
	}
	if n.isZero() {
		return m
	}
	_, remainder := m.divideByWord(n[0])
	return magnitude{wordDivisor(n[0], remainder)}
}

// wordDivisor returns the greatest common divisor of a and b.
func wordDivisor(a, b uint64) uint64 {
	for b != 0 {
		a, b = b, a%b
	}
	return a
}

// line stands for a remainder that Euclid's algorithm meets between m and n: ofM times m less ofN times n, or the
// negative of that on every other line.
type line struct {
	ofM, ofN uint64
}

// remainder returns what the line stands for. Products that leave 512 bits do no harm, since the remainder does not.
func (l line) remainder(m, n magnitude, negated bool) magnitude {
	partOfM, _ := m.scaled(l.ofM, 0)
	partOfN, _ := n.scaled(l.ofN, 0)
	if negated {
		return partOfN.difference(partOfM)
	}
	return partOfM.difference(partOfN)
}

// reduce returns two later remainders, one behind the other, of Euclid's algorithm from m and n on. m is not less than
// n, and n has more than one word.
//
// This is Lehmer's way: most steps are taken on the leading words alone, and made up for by a few products, since
// hundreds of long divisions would be slow.
func reduce(m, n magnitude) (magnitude, magnitude) {
	shift := m.bitLength() - wordBits
	a, b := m.right(shift)[0], n.right(shift)[0]
	var sure line
	last, next := line{ofM: 1}, line{ofN: 1}
	negated := true
	// Collins' condition: as long as it holds, the bits left out could not have changed the quotients up to the last
	// line, and the sums and products below stay within a word.
	for b >= next.ofN && a-b >= last.ofN+next.ofN {
		quotient := a / b
		a, b = b, a%b
		sure, last, next = last, next, line{last.ofM + quotient*next.ofM, last.ofN + quotient*next.ofN}
		negated = !negated
	}
	if sure.ofN == 0 {
		_, remainder := m.divide(n)
		return n, remainder
	}
	return sure.remainder(m, n, negated), last.remainder(m, n, !negated)
}
