package bracket

import (
	"iter"

	"wardmote/api"
	"wardmote/divisor"
	"wardmote/share"
)

// region is a region of a census, with the seats it has won, and its minimum.
type region struct{ people, won, least int }

// seat is a seat of a region that has people: one that it has, or the next one.
type seat struct {
	region
	before int // how many the region has ahead of it
}

// regions yields the regions of an allocation. Without minimums they are 0.
func regions(people, won, least []int) iter.Seq[region] {
	return func(yield func(region) bool) {
		for i, n := range people {
			r := region{people: n, won: won[i]}
			if len(least) > 0 {
				r.least = least[i]
			}
			if !yield(r) {
				return
			}
		}
	}
}

// seats returns the last seats of the regions that have more than their minimums, and the next seat of each region; but
// false if a region without people has more than its minimum, since no divisor gives it any seats.
func seats(all iter.Seq[region]) (last, next []seat, isPossible bool) {
	isPossible = true
collecting:
	for r := range all {
		switch {
		case r.people > 0:
			next = append(next, seat{r, r.won})
			if r.won > r.least {
				last = append(last, seat{r, r.won - 1})
			}
		case r.won > r.least:
			isPossible = false
			break collecting
		}
	}
	return last, next, isPossible
}

// isAbove says whether the rank of s is greater than that of t.
func (s seat) isAbove(t seat, method int) bool {
	order, _ := divisor.Above(method, s.people, s.before, t.people, t.before)
	return order > 0
}

// rank returns the rank of s, but for MeHill its square; or 0, and that it is infinite.
func (s seat) rank(method int) (rank api.Share, isInfinite bool) {
	rank, e := divisor.Rank(method, s.people, s.before)
	if e == api.ErrZero {
		rank, _ = share.Of(0, 1)
		return rank, true
	}
	return rank, false
}

// end returns the element that no other one is beyond. There is at least one element.
func end[T any](all []T, isBeyond func(one, other T) bool) T {
	found := all[0]
	for _, one := range all[1:] {
		if isBeyond(one, found) {
			found = one
		}
	}
	return found
}

// bracketOf returns the bracket of an allocation, or the zero one if it is not certified.
func bracketOf(all iter.Seq[region], method int) api.Bracket {
	last, next, isPossible := seats(all)
	if !isPossible {
		return api.Bracket{}
	}
	isAbove := func(one, other seat) bool { return one.isAbove(other, method) }
	greatest := end(next, isAbove)
	found := api.Bracket{Endless: true, Squared: method == api.MeHill}
	found.Low, found.Scarce = greatest.rank(method)
	if len(last) == 0 {
		found.High, _ = share.Of(0, 1)
		return found
	}
	lowest := end(last, func(one, other seat) bool { return isAbove(other, one) })
	if isAbove(greatest, lowest) {
		return api.Bracket{}
	}
	// If the least last rank is infinite, all of them are.
	found.High, found.Endless = lowest.rank(method)
	return found
}
