package paradox

import (
	"iter"
	"slices"
)

// fewer yields the regions that have fewer seats behind than before, rising; none, if there is no allocation on one side.
func fewer(before, behind []int) iter.Seq[int] {
	return func(yield func(int) bool) {
		for region := range min(len(before), len(behind)) {
			if behind[region] < before[region] && !yield(region) {
				return
			}
		}
	}
}

// shrinking yields the losses by growth of the house, as pairs of seats and region, rising.
func (c census) shrinking(method, from, to int) iter.Seq[[2]int] {
	return func(yield func([2]int) bool) {
		var smaller year
	growing:
		for seats := from; seats <= to; seats++ {
			// An error means that there is no allocation: none that loses, and none to lose against the next one.
			larger, _ := c.decide(seats, method)
			for region := range fewer(smaller.won, larger.won) {
				if !yield([2]int{seats, region}) {
					break growing
				}
			}
			smaller = larger
		}
	}
}

// wronged yields the losses by growth of people since a year before, as pairs of the region that loses and the one that
// wins.
func (y year) wronged(before year) iter.Seq[[2]int] {
	return func(yield func([2]int) bool) {
	pairing:
		for winner := range fewer(y.won, before.won) {
			for loser := range fewer(before.won, y.won) {
				if y.hasGrownMore(before, loser, winner) && !yield([2]int{loser, winner}) {
					break pairing
				}
			}
		}
	}
}

// hasGrownMore says whether a region that loses seats has grown more than one that wins some, in proportion to a year
// before. Products of people are at most 10^18, so that ints are long enough.
func (y year) hasGrownMore(before year, loser, winner int) bool {
	// The loser had people, since it had seats. If the winner had none, the product on the left is 0, and not greater.
	return y.people[loser]*before.people[winner] > y.people[winner]*before.people[loser]
}

// inOrder returns all that the sequences yield, in rising order.
func inOrder[T any](compare func(a, b T) int, all ...iter.Seq[T]) []T {
	var found []T
	for _, some := range all {
		found = slices.AppendSeq(found, some)
	}
	slices.SortFunc(found, compare)
	return found
}

// pairsInOrder returns the pairs that are yielded, in rising order.
func pairsInOrder(pairs iter.Seq[[2]int]) [][2]int {
	return inOrder(func(a, b [2]int) int {
		switch {
		case a == b:
			return 0
		case a[0] < b[0] || a[0] == b[0] && a[1] < b[1]:
			return -1
		}
		return 1
	}, pairs)
}
