package spread

import (
	"iter"

	"wardmote/api"
	"wardmote/share"
	"wardmote/vast"
)

// mass is a value with its probability, which need not be shares.
type mass struct{ at, p vast.Fraction }

// massesOf returns the masses of a valid spread.
func massesOf(s api.Spread) []mass {
	l := make([]mass, len(s))
	for i, m := range s {
		l[i] = mass{vast.OfShare(m.At), vast.OfShare(m.P)}
	}
	return l
}

// moment returns what m adds to the mean.
func (m mass) moment() vast.Fraction {
	return m.at.Times(m.p)
}

func (m mass) probability() vast.Fraction {
	return m.p
}

// whole returns the fraction n.
func whole(n int) vast.Fraction {
	a, _ := share.Of(n, 1)
	return vast.OfShare(a)
}

func isOne(f vast.Fraction) bool {
	return f.Compare(whole(1)) == 0
}

// sum returns the sum of the parts of all elements.
func sum[T any](l []T, part func(T) vast.Fraction) vast.Fraction {
	total := whole(0)
	for _, element := range l {
		total = total.Plus(part(element))
	}
	return total
}

// pairs yields each element of a with each one of b.
func pairs[T any](a, b []T) iter.Seq2[T, T] {
	return func(yield func(m, n T) bool) {
		for _, m := range a {
			for _, n := range b {
				if !yield(m, n) {
					return
				}
			}
		}
	}
}

// weighted yields the masses of the spreads whose weight is not 0, with the weight.
func weighted(l []api.Spread, weights []api.Share) iter.Seq2[vast.Fraction, mass] {
	return func(yield func(vast.Fraction, mass) bool) {
		for i, s := range l {
			weight := vast.OfShare(weights[i])
			if weight.Sign() == 0 {
				continue
			}
			for _, m := range massesOf(s) {
				if !yield(weight, m) {
					return
				}
			}
		}
	}
}
