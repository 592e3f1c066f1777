package radical

import (
	"iter"

	"wardmote/api"
	"wardmote/vast"
	"wardmote/wide"
)

// isInteger says whether a valid radical stands for an integer.
func isInteger(r api.Radical) bool {
	return len(r) == 0 || r[len(r)-1].Under == 1
}

// enclosures yields enclosures of a valid radical, each one within the one before it.
func enclosures(r api.Radical) iter.Seq2[api.Share, api.Share] {
	return func(yield func(low, high api.Share) bool) {
		for _, bits := range [...]int{32, 64, 128, 256, api.RadicalBits} {
			if !yield(enclosure(r, bits)) {
				return
			}
		}
	}
}

// enclosure returns the ends of the enclosure of a valid radical with so many bits, from 0 to RadicalBits.
func enclosure(r api.Radical, bits int) (low, high api.Share) {
	power, _ := wide.Pow(wide.Of(2), bits)
	scale := vast.OfWide(power)
	end := func(sum vast.Fraction) api.Share {
		// Its parts have at most 480 bits: 8 for the number of terms, 72 for each one, and those that were asked for.
		a, _ := sum.Over(scale).Share()
		return a
	}
	lowest, highest := vast.OfWide(api.Wide{}), vast.OfWide(api.Wide{})
	for _, t := range r {
		below, above := integersAround(t, scale)
		lowest, highest = lowest.Plus(below), highest.Plus(above)
	}
	return end(lowest), end(highest)
}

// integersAround returns the greatest integer that is at most scale times the value of a term, and the least one that
// is at least that.
func integersAround(t api.Term, scale vast.Fraction) (below, above vast.Fraction) {
	times := vast.OfWide(wide.Of(t.Times)).Times(scale)
	below = times.Times(times).Times(vast.OfWide(wide.Of(t.Under))).Root()
	above = below
	if t.Under > 1 { // a root that is no fraction
		above = below.Plus(vast.OfWide(wide.Of(1)))
	}
	if t.Times < 0 {
		return above.Negated(), below.Negated()
	}
	return below, above
}
