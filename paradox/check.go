package paradox

import (
	"wardmote/api"
	"wardmote/quota"
)

// checkHouses returns ErrQuota or ErrArg if houses with so many seats cannot be compared.
func checkHouses(people []int, method, from, to int) api.Errno {
	if e := quota.Check(people); e != api.OK {
		return e
	}
	_, isOne := makerOf(method)
	// The limits come first, so that the difference is no longer than an int.
	if !isOne || from < 1 || to > api.MaxSeats || to < from || to-from > api.ParadoxSpan {
		return api.ErrArg
	}
	return api.OK
}

// checkCensuses returns ErrQuota or ErrArg if these are not two censuses of the same regions.
func checkCensuses(before, after []int) api.Errno {
	for _, people := range [...][]int{before, after} {
		if e := quota.Check(people); e != api.OK {
			return e
		}
	}
	if len(before) != len(after) {
		return api.ErrArg
	}
	return api.OK
}
