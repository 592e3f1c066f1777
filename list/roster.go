package list

import (
	"iter"
	"slices"

	"wardmote/api"
)

// roster is parties, and the lists of them: the indices of each list's parties, rising, by the first one of them.
type roster struct {
	parties []api.Party
	lists   map[int][]int
}

func rosterOf(l []api.Party) roster {
	lists := map[int][]int{}
	for i, p := range l {
		first := i
		if p.Alliance > 0 {
			first = slices.IndexFunc(l, func(ally api.Party) bool { return ally.Alliance == p.Alliance })
		}
		lists[first] = append(lists[first], i)
	}
	return roster{l, lists}
}

// slate is a list: the indices of its parties, and the votes of all of them.
type slate struct {
	members    []int
	votes      int
	isAlliance bool
}

// slates yields the lists in the order of their first parties, with their numbers in it.
func (r roster) slates() iter.Seq2[int, slate] {
	return func(yield func(int, slate) bool) {
		number := 0
		for i, p := range r.parties {
			members, isFirst := r.lists[i]
			if !isFirst {
				continue
			}
			votes := sum(members, func(_, party int) int { return r.parties[party].Votes })
			if !yield(number, slate{members, votes, p.Alliance > 0}) {
				return
			}
			number++
		}
	}
}

func votesOf(l []api.Party) int {
	return sum(l, func(_ int, p api.Party) int { return p.Votes })
}

// sum returns the sum of what the elements count.
func sum[T any](all []T, count func(i int, one T) int) int {
	total := 0
	for i, one := range all {
		total += count(i, one)
	}
	return total
}
