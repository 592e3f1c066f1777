package vast

import "math/bits"

// root returns the greatest integer whose square is at most m.
func (m natural) root() natural {
	if len(m) == 0 {
		return m
	}
	// Newton's steps fall from a power of two above the root until they reach it.
	root := powerOfTwo((m.bitLength() + 1) / 2)
	for {
		next := trimmed(halved(root.sum(m.over(root)), 1))
		if next.compare(root) >= 0 {
			return root
		}
		root = next
	}
}

// bitLength returns the number of bits up to the highest one that is set, of a number that is not 0.
func (m natural) bitLength() int {
	top := len(m) - 1
	return top*wordBits + bits.Len64(m[top])
}

// powerOfTwo returns 2^n.
func powerOfTwo(n int) natural {
	words := make([]uint64, n/wordBits+1)
	words[n/wordBits] = 1 << (n % wordBits)
	return words
}
