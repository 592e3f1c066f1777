package quota

import "wardmote/api"

// check returns ErrQuota or ErrArg if one of the arguments is not valid.
func check(people []int, seats, method int) api.Errno {
	if e := Check(people); e != api.OK {
		return e
	}
	if seats < 1 || seats > api.MaxSeats || method < api.MeHare || method > api.MeImperiali {
		return api.ErrArg
	}
	return api.OK
}

// isAward says whether a can be settled: its parts have their limits, and it has no tie, or a whole one.
func isAward(a api.Award) bool {
	regions := len(a.Seats)
	if regions == 0 || regions > api.MaxRegions || !areUpTo(api.MaxSeats, a.Seats...) {
		return false
	}
	if len(a.Tied) == 0 {
		return a.Open == 0
	}
	return areUpTo(regions-1, a.Tied...) && areRising(a.Tied) && a.Open >= 1 && a.Open < len(a.Tied)
}

// areUpTo says whether all numbers are from 0 to most.
func areUpTo(most int, numbers ...int) bool {
	for _, n := range numbers {
		if n < 0 || n > most {
			return false
		}
	}
	return true
}

// areRising says whether each number is greater than the one before it.
func areRising(numbers []int) bool {
	for i, n := range numbers {
		if i > 0 && n <= numbers[i-1] {
			return false
		}
	}
	return true
}

func sum(numbers ...int) int {
	total := 0
	for _, n := range numbers {
		total += n
	}
	return total
}
