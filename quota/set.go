package quota

import "iter"

// set is a set of things that are known by their numbers, from 0 on, and leave it one by one.
type set[T any] struct {
	all    []T
	isGone []bool
}

// setOf returns the set of all elements, whose numbers are their indices.
func setOf[T any](all []T) set[T] {
	return set[T]{all, make([]bool, len(all))}
}

// members yields what has not left, in the order of the numbers.
func (s set[T]) members() iter.Seq[T] {
	return func(yield func(T) bool) {
		for number, member := range s.all {
			if !s.isGone[number] && !yield(member) {
				return
			}
		}
	}
}

func (s set[T]) remove(number int) {
	s.isGone[number] = true
}
