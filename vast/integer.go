package vast

import (
	"math/bits"

	"wardmote/api"
	"wardmote/wide"
)

// integer is an integer of any size.
type integer struct {
	size     natural
	negative bool // never if the size is 0
}

// signed returns the integer of this size; the sign of 0 does not count.
func signed(size natural, negative bool) integer {
	return integer{size, negative && len(size) > 0}
}

// integerOf returns a as an integer.
func integerOf(a api.Wide) integer {
	negative := wide.Sign(a) < 0
	if negative {
		a = complement(a)
	}
	return integer{trimmed(a[:]), negative}
}

// wide returns a as a wide integer, and whether it is one.
func (a integer) wide() (words api.Wide, fits bool) {
	if len(a.size) > len(words) {
		return words, false
	}
	copy(words[:], a.size)
	if a.negative {
		words = complement(words)
	}
	return words, wide.Sign(words) == a.Sign() // unless the highest bit is one of the size
}

// complement returns the words of 2^512 - a: it takes away a sign, or adds it.
func complement(a api.Wide) api.Wide {
	var borrow uint64
	for i, word := range a {
		a[i], borrow = bits.Sub64(0, word, borrow)
	}
	return a
}

// Sign returns -1, 0 or 1.
func (a integer) Sign() int {
	switch {
	case a.negative:
		return -1
	case len(a.size) == 0:
		return 0
	}
	return 1
}

func (a integer) opposite() integer {
	return signed(a.size, !a.negative)
}

// compare returns -1, 0 or 1 if a is less than, equal to or greater than b.
func (a integer) compare(b integer) int {
	return a.plus(b.opposite()).Sign()
}

func (a integer) plus(b integer) integer {
	if a.negative == b.negative {
		return integer{a.size.sum(b.size), a.negative}
	}
	if a.size.compare(b.size) < 0 {
		a, b = b, a
	}
	return signed(a.size.difference(b.size), a.negative)
}

func (a integer) times(b integer) integer {
	return signed(a.size.product(b.size), a.negative != b.negative)
}

// multiple returns a times n.
func (a integer) multiple(n natural) integer {
	return signed(a.size.product(n), a.negative)
}

// part returns a divided by n, which divides it.
func (a integer) part(n natural) integer {
	return signed(a.size.over(n), a.negative)
}

// down returns the greatest integer that is at most a divided by n, which is not 0.
func (a integer) down(n natural) integer {
	quotient, remainder := a.size.divide(n)
	if a.negative && len(remainder) > 0 {
		quotient = quotient.sum(natural{1})
	}
	return signed(quotient, a.negative)
}
