package fair

import (
	"wardmote/api"
	"wardmote/quota"
	"wardmote/share"
)

// breaches returns the regions that break the quota rule, with -1 or 1.
func breaches(people, won []int) [][2]int {
	seats := sum(won, func(n int) int { return n })
	quotients, _ := quota.Quotients(people, seats, api.MeHare)
	var found [][2]int
	for i, q := range quotients {
		if side := breach(won[i], q); side != 0 {
			found = append(found, [2]int{i, side})
		}
	}
	return found
}

// breach returns -1 if so many seats are less than the quotient, rounded down; 1 if they are more than it is, rounded up;
// and 0 otherwise. For whole numbers that is to be one seat or more away from the quotient itself.
func breach(seats int, quotient api.Share) int {
	switch {
	case order(seats+1, quotient) <= 0:
		return -1
	case order(seats-1, quotient) >= 0:
		return 1
	}
	return 0
}

// order returns -1, 0 or 1 if n is less than, equal to or greater than q.
func order(n int, q api.Share) int {
	whole, _ := share.Of(n, 1)
	order, _ := share.Cmp(whole, q)
	return order
}
