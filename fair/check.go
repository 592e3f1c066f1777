package fair

import (
	"wardmote/api"
	"wardmote/quota"
)

// checkAllocation returns ErrQuota if the census is not valid, or ErrArg if won is no allocation for it.
func checkAllocation(people, won []int) api.Errno {
	if e := quota.Check(people); e != api.OK {
		return e
	}
	if len(won) != len(people) || !areSeats(won) {
		return api.ErrArg
	}
	return api.OK
}

// areSeats says whether the numbers are seats of regions, of which there are some, and not too many together.
func areSeats(won []int) bool {
	// What is left is counted, and not the sum, which may be too long for an int.
	left := api.MaxSeats
	for _, n := range won {
		if n < 0 || n > left {
			return false
		}
		left -= n
	}
	return left < api.MaxSeats
}

func isMethod(method int) bool {
	return method >= api.MeAdams && method <= api.MeJefferson
}

// isValid says whether the parts of s have their limits.
func (s side) isValid() bool {
	return s.people >= 1 && s.people <= api.MaxPeople && s.seats >= 0 && s.seats <= api.MaxSeats
}
