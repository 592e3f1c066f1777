package list

import "wardmote/api"

// whole stands for all votes, in the units of thresholds.
const whole = 10000

// haveLimits says whether the votes and the alliance of each party have their limits.
func haveLimits(l []api.Party) bool {
	for _, p := range l {
		if !isFrom(0, api.MaxPeople, p.Votes) || !isFrom(0, api.ListMax, p.Alliance) {
			return false
		}
	}
	return true
}

// areRules says whether the rules have their limits, except for the method.
func areRules(r api.ListRules) bool {
	return isFrom(1, api.MaxSeats, r.Seats) && isFrom(0, whole, r.Threshold) && isFrom(0, whole, r.Joint) && isFrom(0, r.Seats, r.Bonus)
}

func isFrom(low, high, n int) bool {
	return n >= low && n <= high
}
