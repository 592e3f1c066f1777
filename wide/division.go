package wide

import "math/bits"

// divideByWord returns quotient and remainder of m by n, which is not 0.
func (m magnitude) divideByWord(n uint64) (quotient magnitude, remainder uint64) {
	for i := m.length() - 1; i >= 0; i-- {
		quotient[i], remainder = bits.Div64(remainder, m[i], n)
	}
	return quotient, remainder
}

// divide returns quotient and remainder of m by n, which is not 0: long division, with words as digits.
func (m magnitude) divide(n magnitude) (quotient, remainder magnitude) {
	size := n.length()
	if size == 1 {
		quotient, remainder[0] = m.divideByWord(n[0])
		return quotient, remainder
	}
	// Both numbers are doubled until the divisor's highest bit is set: so the guesses are at most 1 too large.
	shift := bits.LeadingZeros64(n[size-1])
	divisor := n.left(shift)
	var rest [words + 1]uint64
	remainder = m.left(shift)
	copy(rest[:], remainder[:])
	rest[words] = m[words-1] >> (wordBits - shift)
	for at := m.length() - size; at >= 0; at-- {
		quotient[at] = divideWindow(rest[at:at+size+1], divisor[:size])
	}
	copy(remainder[:], rest[:words])
	return quotient, remainder.right(shift)
}

// divideWindow returns the one word that is the quotient of window by divisor, and leaves the remainder in window. The
// window is one word longer than the divisor, and less than the divisor times 2^64.
func divideWindow(window, divisor []uint64) uint64 {
	digit := guess(window, divisor)
	if takeAway(window, divisor, digit) {
		digit--
		giveBack(window, divisor)
	}
	return digit
}

// guess returns the quotient of window by divisor, or 1 more, from the highest three words of the one and two of the
// other.
func guess(window, divisor []uint64) uint64 {
	size := len(divisor)
	top, next := divisor[size-1], divisor[size-2]
	high, middle, low := window[size], window[size-1], window[size-2]
	if high >= top {
		return allOnes
	}
	digit, rest := bits.Div64(high, middle, top)
	for {
		over, part := bits.Mul64(digit, next)
		if over < rest || over == rest && part <= low {
			return digit
		}
		digit--
		var carry uint64
		if rest, carry = bits.Add64(rest, top, 0); carry != 0 {
			return digit
		}
	}
}

// takeAway subtracts digit times divisor from window, and says whether that was too much.
func takeAway(window, divisor []uint64, digit uint64) bool {
	var extra, borrow uint64
	for i, word := range divisor {
		high, low := bits.Mul64(word, digit)
		part, carry := bits.Add64(low, extra, 0)
		extra = high + carry
		window[i], borrow = bits.Sub64(window[i], part, borrow)
	}
	last := len(divisor)
	window[last], borrow = bits.Sub64(window[last], extra, borrow)
	return borrow != 0
}

// giveBack adds divisor to window, without the last carry: it makes up for the borrow of takeAway.
func giveBack(window, divisor []uint64) {
	var carry uint64
	for i, word := range divisor {
		window[i], carry = bits.Add64(window[i], word, carry)
	}
	window[len(divisor)] += carry
}
