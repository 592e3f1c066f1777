package list

import (
	"slices"

	"wardmote/api"
)

// level returns the award of the lists; ErrNone, ErrState, ErrFail or ErrQuota.
func (t ticket) level() (api.Award, api.Errno) {
	votes := make([]int, len(t.lists))
	for number, s := range t.passing() {
		votes[number] = s.votes
	}
	if slices.Max(votes) == 0 {
		return api.Award{}, api.ErrNone
	}
	bonus, e := t.bonus()
	if e != api.OK {
		return api.Award{}, e
	}
	if t.Bonus == t.Seats {
		return api.Award{Seats: bonus}, api.OK
	}
	award, e := t.give(votes, t.Seats-t.Bonus, t.Method, nil)
	if e != api.OK {
		return api.Award{}, e
	}
	award.Seats = together(award.Seats, bonus)
	return award, api.OK
}

// bonus returns the bonus seats of each list; ErrState if there are some, and no list alone has the most votes.
func (t ticket) bonus() ([]int, api.Errno) {
	seats := make([]int, len(t.lists))
	if t.Bonus == 0 {
		return seats, api.OK
	}
candidates:
	for number, s := range t.passing() {
		for other, rival := range t.passing() {
			if other != number && rival.votes >= s.votes {
				continue candidates
			}
		}
		seats[number] = t.Bonus
		return seats, api.OK
	}
	return nil, api.ErrState
}

// together returns how many seats each list has in all.
func together(some []int, more ...[]int) []int {
	total := slices.Clone(some)
	for _, seats := range more {
		for number, n := range seats {
			total[number] += n
		}
	}
	return total
}

// share returns the seats of the parties when each list has so many; ErrFail or ErrState.
func (t ticket) share(won []int) ([]int, api.Errno) {
	all := make([]int, len(t.parties))
	for number, s := range t.slates() {
		seats, e := t.divide(s, won[number])
		if e != api.OK {
			return nil, e
		}
		for i, party := range s.members {
			all[party] = seats[i]
		}
	}
	return all, api.OK
}

// divide returns the seats of each party of a list that has so many of them; ErrFail or ErrState.
func (t ticket) divide(s slate, seats int) ([]int, api.Errno) {
	switch {
	case len(s.members) == 1:
		return []int{seats}, api.OK
	case seats == 0:
		return make([]int, len(s.members)), api.OK
	}
	var votes []int
	for _, party := range s.members {
		votes = append(votes, t.parties[party].Votes)
	}
	return decided(t.give(votes, seats, t.Method, nil))
}

// decided returns the seats of an award; its error, or ErrState if it has open seats.
func decided(a api.Award, e api.Errno) ([]int, api.Errno) {
	switch {
	case e != api.OK:
		return nil, e
	case a.Open > 0:
		return nil, api.ErrState
	}
	return a.Seats, api.OK
}
