package wide

import (
	"math/bits"

	"wardmote/api"
)

// signed is an integer with its sign apart from its size; a zero may have either sign.
type signed struct {
	magnitude
	negative bool
}

// signedOf returns a with its sign apart.
func signedOf(a api.Wide) signed {
	if Sign(a) < 0 {
		return signed{magnitude{}.difference(magnitude(a)), true}
	}
	return signed{magnitude(a), false}
}

// wideOf returns the wide integer s, or ErrBig if it is none; fits says whether s is what was to be computed.
func wideOf(s signed, fits bool) (api.Wide, api.Errno) {
	order := s.compare(magnitude{words - 1: highBit})
	if !fits || order > 0 || order == 0 && !s.negative {
		return api.Wide{}, api.ErrBig
	}
	if s.negative {
		return api.Wide(magnitude{}.difference(s.magnitude)), api.OK
	}
	return api.Wide(s.magnitude), api.OK
}

// plus returns the sum, and whether its size is a magnitude.
func (s signed) plus(t signed) (signed, bool) {
	if s.negative == t.negative {
		sum, fits := s.sum(t.magnitude)
		return signed{sum, s.negative}, fits
	}
	if s.compare(t.magnitude) < 0 {
		s, t = t, s
	}
	return signed{s.difference(t.magnitude), s.negative}, true
}

// minus returns the difference, and whether its size is a magnitude.
func (s signed) minus(t signed) (signed, bool) {
	t.negative = !t.negative
	return s.plus(t)
}

// times returns the product, and whether its size is a magnitude.
func (s signed) times(t signed) (signed, bool) {
	product, fits := s.product(t.magnitude)
	return signed{product, s.negative != t.negative}, fits
}

// over returns the quotient by t, which is not 0, and the remainder.
func (s signed) over(t signed) (signed, magnitude) {
	quotient, remainder := s.divide(t.magnitude)
	if s.negative && !remainder.isZero() {
		// What is left of a negative number is below 0: one divisor more, away from 0, makes up for it.
		quotient, _ = quotient.sum(magnitude{1})
		remainder = t.difference(remainder)
	}
	return signed{quotient, s.negative != t.negative}, remainder
}

// power returns the n-th power, and whether its size is a magnitude.
func (s signed) power(n int) (signed, bool) {
	power, fits := signed{magnitude: magnitude{1}}, true
	// From the highest bit of n on, what is too large on the way would be too large in the end as well.
	for at := bits.Len(uint(n)) - 1; at >= 0 && fits; at-- {
		power, fits = power.times(power)
		if fits && n>>at&1 == 1 {
			power, fits = power.times(s)
		}
	}
	return power, fits
}
