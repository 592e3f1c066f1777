package bracket

import (
	"wardmote/api"
	"wardmote/quota"
	"wardmote/share"
)

// check returns ErrQuota or ErrArg if one of the arguments of an allocation is not valid.
func check(people, won []int, method int, least []int) api.Errno {
	if e := quota.Check(people); e != api.OK {
		return e
	}
	if len(won) != len(people) || !areSeats(won) || !isMethod(method) || !areMinimums(least, won) {
		return api.ErrArg
	}
	return api.OK
}

// checkDivisor returns ErrQuota, ErrShare or ErrArg if one of the arguments of At is not valid.
func checkDivisor(people []int, x api.Share, method int) api.Errno {
	if e := quota.Check(people); e != api.OK {
		return e
	}
	sign, e := share.Sign(x)
	if e != api.OK {
		return e
	}
	if sign <= 0 || !isMethod(method) {
		return api.ErrArg
	}
	return api.OK
}

func isMethod(method int) bool {
	return method >= api.MeAdams && method <= api.MeJefferson
}

// areSeats says whether the numbers are seats of regions, of which there are some, and not too many together.
func areSeats(won []int) bool {
	// What is left is counted, and not the sum, which may be too long for an int.
	left := api.MaxSeats
	for _, n := range won {
		if n < 0 || n > left {
			return false
		}
		left -= n
	}
	return left < api.MaxSeats
}

// areMinimums says whether there is a minimum for each region, or none at all, and each region has it.
func areMinimums(least, won []int) bool {
	if len(least) == 0 {
		return true
	}
	if len(least) != len(won) {
		return false
	}
	for i, n := range least {
		if n < 0 || n > won[i] {
			return false
		}
	}
	return true
}
