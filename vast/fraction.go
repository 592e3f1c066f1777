// Package vast computes with fractions of any size, for the layers whose results are shares whatever is met on the way.
package vast

import "wardmote/api"

// Fraction is a fraction in lowest terms, of integers of any size. It is made by OfShare, OfWide, and its methods.
type Fraction struct {
	integer     // the numerator
	denominator natural
}

// OfShare returns the fraction that is a, which is a valid share.
func OfShare(a api.Share) Fraction {
	return Fraction{integerOf(a.N), integerOf(a.D).size}
}

// OfWide returns the fraction that is the integer n.
func OfWide(n api.Wide) Fraction {
	return whole(integerOf(n))
}

func whole(n integer) Fraction {
	return Fraction{n, natural{1}}
}

// Share returns the share that is f, or ErrBig if a part of it is not a wide integer.
func (f Fraction) Share() (api.Share, api.Errno) {
	numerator, fits := f.wide()
	denominator, fitsToo := f.denominator.wide()
	if !fits || !fitsToo {
		return api.Share{}, api.ErrBig
	}
	return api.Share{N: numerator, D: denominator}, api.OK
}

// Negated returns the negative of f.
func (f Fraction) Negated() Fraction {
	return Fraction{f.opposite(), f.denominator}
}

// Absolute returns the absolute value of f.
func (f Fraction) Absolute() Fraction {
	return Fraction{integer{size: f.size}, f.denominator}
}

// Plus returns f + g.
func (f Fraction) Plus(g Fraction) Fraction {
	common := f.denominator.commonDivisor(g.denominator)
	rest, other := f.denominator.over(common), g.denominator.over(common)
	sum := f.multiple(other).plus(g.multiple(rest))
	// Only what both denominators share can divide the sum, too: so no divisor of two long numbers is needed.
	divisor := sum.size.commonDivisor(common)
	return Fraction{sum.part(divisor), g.denominator.over(divisor).product(rest)}
}

// Minus returns f - g.
func (f Fraction) Minus(g Fraction) Fraction {
	return f.Plus(g.Negated())
}

// Times returns the product of f and g.
func (f Fraction) Times(g Fraction) Fraction {
	// What is divided out crosswise leaves the product in lowest terms.
	first := f.size.commonDivisor(g.denominator)
	second := g.size.commonDivisor(f.denominator)
	return Fraction{
		f.part(first).times(g.part(second)),
		f.denominator.over(second).product(g.denominator.over(first)),
	}
}

// Over returns f divided by g, which is not 0.
func (f Fraction) Over(g Fraction) Fraction {
	return f.Times(Fraction{integer{g.denominator, g.negative}, g.size})
}

// Compare returns -1, 0 or 1 if f is less than, equal to or greater than g.
func (f Fraction) Compare(g Fraction) int {
	return f.multiple(g.denominator).compare(g.multiple(f.denominator))
}

// Floor returns the greatest integer that is at most f.
func (f Fraction) Floor() Fraction {
	return whole(f.down(f.denominator))
}

// Ceiling returns the least integer that is at least f.
func (f Fraction) Ceiling() Fraction {
	return f.Negated().Floor().Negated()
}

// Nearest returns the integer nearest to f, the greater one of two.
func (f Fraction) Nearest() Fraction {
	half := Fraction{integer{size: natural{1}}, natural{2}}
	return f.Plus(half).Floor()
}

// Root returns the greatest integer whose square is at most f, which is not negative.
func (f Fraction) Root() Fraction {
	return whole(integer{size: f.size.over(f.denominator).root()})
}

// Decimal returns the decimal text of f, rounded to so many places (none or more).
func (f Fraction) Decimal(places int) string {
	power := natural{1}
	for range places {
		power = power.product(natural{10})
	}
	nearest := f.Times(whole(integer{size: power})).Nearest()
	text := padded(nearest.size.digits(), places+1)
	if places > 0 {
		point := len(text) - places
		text = text[:point] + "." + text[point:]
	}
	if nearest.negative {
		text = "-" + text
	}
	return text
}
