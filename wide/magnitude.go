package wide

import (
	"cmp"
	"math/bits"
)

const (
	words    = 8
	wordBits = 64
	highBit  = 1 << (wordBits - 1)
	allOnes  = 1<<wordBits - 1
)

// magnitude is an integer from 0 to 2^512 - 1, the lowest word first.
type magnitude [words]uint64

func (m magnitude) isZero() bool {
	return m == magnitude{}
}

// length returns the number of words up to the highest one that is not 0.
func (m magnitude) length() int {
	size := words
	for size > 0 && m[size-1] == 0 {
		size--
	}
	return size
}

// bitLength returns the number of bits up to the highest one that is set, of a number that is not 0.
func (m magnitude) bitLength() int {
	size := m.length()
	return (size-1)*wordBits + bits.Len64(m[size-1])
}

// compare returns -1, 0 or 1 if m is less than, equal to or greater than n.
func (m magnitude) compare(n magnitude) int {
	for i := words - 1; i > 0; i-- {
		if m[i] != n[i] {
			return cmp.Compare(m[i], n[i])
		}
	}
	return cmp.Compare(m[0], n[0])
}

// sum returns m + n, and whether that is below 2^512.
func (m magnitude) sum(n magnitude) (magnitude, bool) {
	var carry uint64
	for i := range m {
		m[i], carry = bits.Add64(m[i], n[i], carry)
	}
	return m, carry == 0
}

// difference returns m - n, or 2^512 more if that is negative.
func (m magnitude) difference(n magnitude) magnitude {
	var borrow uint64
	for i := range m {
		m[i], borrow = bits.Sub64(m[i], n[i], borrow)
	}
	return m
}

// product returns m times n, and whether that is below 2^512.
func (m magnitude) product(n magnitude) (low magnitude, fits bool) {
	var columns [2 * words]uint64
	gather := func(at int, part uint64) (carry uint64) {
		columns[at], carry = bits.Add64(columns[at], part, 0)
		return carry
	}
	for i, a := range m[:m.length()] {
	parts:
		for j, b := range n[:n.length()] {
			high, part := bits.Mul64(a, b)
			carry := high + gather(i+j, part)
			for at := i + j + 1; at < len(columns); at++ {
				if carry = gather(at, carry); carry == 0 {
					continue parts
				}
			}
		}
	}
	copy(low[:], columns[:words])
	for _, beyond := range columns[words:] {
		if beyond != 0 {
			return low, false
		}
	}
	return low, true
}

// scaled returns the words of m times factor plus extra, and the word above them.
func (m magnitude) scaled(factor, extra uint64) (magnitude, uint64) {
	for i, word := range m {
		high, low := bits.Mul64(word, factor)
		var carry uint64
		m[i], carry = bits.Add64(low, extra, 0)
		extra = high + carry
	}
	return m, extra
}

// left returns m times 2^n, without the bits beyond 512.
func (m magnitude) left(n int) (moved magnitude) {
	whole, part := n/wordBits, n%wordBits
	for i := whole; i < words; i++ {
		moved[i] = m[i-whole] << part
		if i > whole {
			moved[i] |= m[i-whole-1] >> (wordBits - part)
		}
	}
	return moved
}

// right returns m divided by 2^n, without the remainder.
func (m magnitude) right(n int) (moved magnitude) {
	whole, part := n/wordBits, n%wordBits
	for i := whole; i < words; i++ {
		moved[i-whole] = m[i] >> part
		if i+1 < words {
			moved[i-whole] |= m[i+1] << (wordBits - part)
		}
	}
	return moved
}

// root returns the greatest integer whose square is at most m.
func (m magnitude) root() magnitude {
	if m.isZero() {
		return m
	}
	// Newton's steps fall from a first value above the root until they reach it.
	root := magnitude{1}.left((m.bitLength() + 1) / 2)
	for {
		quotient, _ := m.divide(root)
		twice, _ := root.sum(quotient)
		next := twice.right(1)
		if next.compare(root) >= 0 {
			return root
		}
		root = next
	}
}
