package quota

import "wardmote/api"

// house is so many people, and the seats that are to be theirs.
type house struct{ people, seats int }

// quota is a number of people, divided by a number of parts; both are at least 1. It is not always in lowest terms. Since
// there are at most 6 * 10^10 people in all, 10^9 in a region, and 1002 parts, ints are long enough for quotients.
type quota struct{ people, parts int }

// quota returns the quota of h by a method. Somebody is there.
func (h house) quota(method int) quota {
	quotas := [...]func(house) quota{
		api.MeHare:      house.hare,
		api.MeDroop:     house.droop,
		api.MeHagenbach: house.hagenbach,
		api.MeImperiali: house.imperiali,
	}
	return quotas[method](h)
}

func (h house) hare() quota {
	return quota{h.people, h.seats}
}

func (h house) droop() quota {
	return quota{h.people/(h.seats+1) + 1, 1}
}

func (h house) hagenbach() quota {
	return quota{h.people, h.seats + 1}
}

func (h house) imperiali() quota {
	return quota{h.people, h.seats + 2}
}

// region is a region of a census, with its minimum of seats.
type region struct{ number, people, least int }

// regionsOf returns the regions of a census, for each of which there is a minimum.
func regionsOf(people, least []int) []region {
	l := make([]region, len(people))
	for i := range people {
		l[i] = region{i, people[i], least[i]}
	}
	return l
}

// claim is what a region has by a quota: its quotient rounded down, and the remainder times the people of the quota, so
// that remainders by one quota can be compared.
type claim struct {
	region
	whole, rest int
}

func (q quota) claim(r region) claim {
	parts := r.people * q.parts
	return claim{r, parts / q.people, parts % q.people}
}

// isTooSmall says whether the quotient is less than the minimum.
func (c claim) isTooSmall() bool {
	return c.whole < c.least
}
