// Package euclid takes steps of Euclid's algorithm on the leading words of long numbers.
//
// This is Lehmer's way: most steps are taken on these words alone, and made up for by a few products, since a long
// division for each step would be slow.
package euclid

// Line stands for a remainder that Euclid's algorithm meets between m and n: OfM times m less OfN times n, or, if it is
// negated, the negative of that.
type Line struct {
	OfM, OfN uint64
	Negated  bool
}

// Lines returns the lines of two remainders, one behind the other, that the algorithm meets from all m and n on that
// begin with the words a and b. The highest bit of a is one, and b, which is at most a, stands at the same place in n. If
// OfN of the first line is 0, nothing is known of m and n.
func Lines(a, b uint64) (first, second Line) {
	second, next := Line{OfM: 1}, Line{OfN: 1, Negated: true}
	// Collins' condition: as long as it holds, the bits left out could not have changed the quotients up to the second
	// line, and the sums and products below stay within a word.
	for b >= next.OfN && a-b >= second.OfN+next.OfN {
		quotient := a / b
		a, b = b, a%b
		first, second, next = second, next, next.behind(second, quotient)
	}
	return first, second
}

// behind returns the line of the remainder behind that of l and the one before it, which have this quotient.
func (l Line) behind(before Line, quotient uint64) Line {
	return Line{before.OfM + quotient*l.OfM, before.OfN + quotient*l.OfN, before.Negated}
}
