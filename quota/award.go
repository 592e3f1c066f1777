package quota

import (
	"cmp"
	"slices"

	"wardmote/api"
)

// count is an award that is being made: the seats of each region, and how many are still open.
type count struct {
	seats []int
	open  int
}

func (c *count) give(number, seats int) {
	c.seats[number] += seats
	c.open -= seats
}

// award returns the award of so many seats to all regions of the race, or ErrFail.
func award(race set[region], seats, method int) (api.Award, api.Errno) {
	c := count{make([]int, len(race.all)), seats}
rounds:
	for c.open > 0 {
		people := peopleOf(race)
		if people == 0 {
			return api.Award{}, api.ErrFail
		}
		q := house{people, c.open}.quota(method)
		var claims []claim
		for r := range race.members() {
			one := q.claim(r)
			if one.isTooSmall() {
				c.dismiss(race, q)
				continue rounds
			}
			claims = append(claims, one)
		}
		return c.divide(claims)
	}
	return api.Award{Seats: c.seats}, api.OK
}

// peopleOf returns how many people there are in the race.
func peopleOf(race set[region]) int {
	var people []int
	for r := range race.members() {
		people = append(people, r.people)
	}
	return sum(people...)
}

// dismiss lets all regions whose quotients are too small leave the race, with their minimums.
func (c *count) dismiss(race set[region], q quota) {
	for r := range race.members() {
		if q.claim(r).isTooSmall() {
			c.give(r.number, r.least)
			race.remove(r.number)
		}
	}
}

// divide returns the award when the open seats go to the claims of the race, or ErrFail.
func (c *count) divide(claims []claim) (api.Award, api.Errno) {
	for _, one := range claims {
		c.give(one.number, one.whole)
	}
	withPeople := slices.DeleteFunc(claims, func(one claim) bool { return one.people == 0 })
	if c.open < 0 || c.open > len(withPeople) {
		return api.Award{}, api.ErrFail
	}
	tied := c.giveRest(withPeople)
	return api.Award{Seats: c.seats, Tied: tied, Open: c.open}, api.OK
}

// giveRest gives the open seats, which are no more than the claims, to the greatest remainders, as far as there is no
// tie for them, and returns the regions that tie.
func (c *count) giveRest(claims []claim) (tied []int) {
	slices.SortFunc(claims, func(a, b claim) int {
		return cmp.Or(cmp.Compare(b.rest, a.rest), cmp.Compare(a.number, b.number))
	})
	last := -1 // the greatest remainder that goes without a seat
	if c.open < len(claims) {
		last = claims[c.open].rest
	}
	for _, one := range claims {
		switch {
		case one.rest > last:
			c.give(one.number, 1)
		case one.rest == last:
			tied = append(tied, one.number)
		}
	}
	if c.open == 0 {
		return nil
	}
	return tied
}
