package divisor

import (
	"wardmote/api"
	"wardmote/quota"
)

// check returns ErrQuota or ErrArg if one of the arguments of an award is not valid.
func check(people []int, seats, method int, least []int) api.Errno {
	if e := quota.Check(people); e != api.OK {
		return e
	}
	if !areFrom(1, api.MaxSeats, seats) || !isMethod(method) || !areMinimums(least, len(people), seats) {
		return api.ErrArg
	}
	return api.OK
}

func isMethod(method int) bool {
	return areFrom(api.MeAdams, api.MeJefferson, method)
}

// areMinimums says whether there is a minimum for each region, or none at all, and enough seats for them.
func areMinimums(least []int, regions, seats int) bool {
	if len(least) > 0 && len(least) != regions {
		return false
	}
	// What is left is counted, and not the sum, which may be too long for an int.
	left := seats
	for _, n := range least {
		if !areFrom(0, left, n) {
			return false
		}
		left -= n
	}
	return true
}

// areFrom says whether all numbers are from low to high.
func areFrom(low, high int, numbers ...int) bool {
	for _, n := range numbers {
		if n < low || n > high {
			return false
		}
	}
	return true
}
