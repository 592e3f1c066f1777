package divisor

import (
	"iter"
	"slices"

	"wardmote/api"
)

// region is a region of a census.
type region struct{ number, people int }

// claimant is a region that has people, with its seats, and its rank at them.
type claimant struct {
	region
	seats int
	rank  ratio
}

// take gives c so many seats.
func (c *claimant) take(seats, method int) {
	c.seats += seats
	c.rank = rank(method, c.people, c.seats)
}

// claimants returns the regions that have people, with their minimums.
func claimants(people, least []int, method int) []*claimant {
	var l []*claimant
	for i, n := range people {
		if n > 0 {
			c := &claimant{region: region{i, n}}
			c.take(least[i], method)
			l = append(l, c)
		}
	}
	return l
}

// best returns the elements that are no less than any other one; all of them are equal. There is at least one element.
func best[T any](all []T, compare func(a, b T) int) []T {
	greatest := slices.MaxFunc(all, compare)
	return slices.DeleteFunc(slices.Clone(all), func(one T) bool { return compare(one, greatest) < 0 })
}

// turns yields the numbers of the regions that have the greatest rank, again and again; each one of them then has a
// seat more. Regions of equal ranks come together, since they get their seats all at once or not at all.
func turns(people, least []int, method int) iter.Seq[[]int] {
	return func(yield func([]int) bool) {
		all := claimants(people, least, method)
		for {
			var numbers []int
			for _, c := range best(all, func(a, b *claimant) int { return a.rank.compare(b.rank) }) {
				numbers = append(numbers, c.number)
				c.take(1, method)
			}
			if !yield(numbers) {
				return
			}
		}
	}
}

// award returns the award, and the regions in the order in which they get the seats beyond the minimums.
func award(people []int, seats, method int, least []int) (api.Award, []int) {
	if len(least) == 0 {
		least = make([]int, len(people))
	}
	a := api.Award{Seats: slices.Clone(least), Open: seats}
	for _, n := range least {
		a.Open -= n
	}
	var order []int
giving:
	for numbers := range turns(people, least, method) {
		switch {
		case a.Open == 0:
			break giving
		case a.Open < len(numbers):
			a.Tied = numbers
			break giving
		}
		for _, number := range numbers {
			a.Seats[number]++
			a.Open--
		}
		order = append(order, numbers...)
	}
	return a, order
}
