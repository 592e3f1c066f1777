package fair

import (
	"cmp"
	"iter"
	"slices"
)

// region is a region of a census that has people, or several of them together.
type region struct{ number, people int }

// side is a region, with its seats, that is held against another one.
type side struct {
	region
	seats int
}

// sideOf returns a side whose number does not matter.
func sideOf(people, seats int) side {
	return side{region{people: people}, seats}
}

// sides returns the regions that have people, with their seats.
func sides(people, won []int) []side {
	var all []side
	for i, n := range people {
		if n > 0 {
			all = append(all, side{region{i, n}, won[i]})
		}
	}
	return all
}

// lead returns how many seats per person s has more than other has, times the people of both.
func (s side) lead(other side) int {
	return product(s.seats, other.people) - product(other.seats, s.people)
}

// moves yields the pairs of different sides of which the first one has a seat that can be moved.
func moves(all []side) iter.Seq2[side, side] {
	return func(yield func(from, to side) bool) {
	moving:
		for _, from := range all {
			if from.seats == 0 {
				continue
			}
			for _, to := range all {
				if from.number != to.number && !yield(from, to) {
					break moving
				}
			}
		}
	}
}

// sortBySize sorts sides by their people, the most first; of equal ones the lower one stands first.
func sortBySize(all []side) {
	slices.SortFunc(all, func(a, b side) int {
		return cmp.Or(cmp.Compare(b.people, a.people), cmp.Compare(a.number, b.number))
	})
}

// groupOf returns the sides together, as one side.
func groupOf(all []side) side {
	return sideOf(sum(all, func(s side) int { return s.people }), sum(all, func(s side) int { return s.seats }))
}

// sum adds up a part of each element.
func sum[T any](all []T, part func(T) int) int {
	total := 0
	for _, one := range all {
		total += part(one)
	}
	return total
}

func product(factors ...int) int {
	all := 1
	for _, n := range factors {
		all *= n
	}
	return all
}
