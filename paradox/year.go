package paradox

import (
	"wardmote/api"
	"wardmote/divisor"
	"wardmote/quota"
)

// maker makes awards by the methods from first to last.
type maker struct {
	first, last int
	give        func(people []int, seats, method int, least []int) (api.Award, api.Errno)
}

// makerOf returns what makes awards by a method, and whether there is such a method.
func makerOf(method int) (maker, bool) {
	for _, m := range [...]maker{
		{api.MeHare, api.MeImperiali, quota.Give},
		{api.MeAdams, api.MeJefferson, divisor.Give},
	} {
		if method >= m.first && method <= m.last {
			return m, true
		}
	}
	return maker{}, false
}

// census is how many people each region has.
type census struct{ people []int }

// join returns the census of the regions of all censuses, in their order.
func join(all ...census) census {
	var joined census
	for _, c := range all {
		joined.people = append(joined.people, c.people...)
	}
	return joined
}

// year is a census with its decided allocation. The zero year has none.
type year struct {
	census
	won []int
}

// decide returns the census with its decided allocation; ErrQuota, ErrArg, ErrFail or ErrState.
func (c census) decide(seats, method int) (year, api.Errno) {
	if e := quota.Check(c.people); e != api.OK {
		return year{}, e
	}
	m, isOne := makerOf(method)
	if !isOne {
		return year{}, api.ErrArg
	}
	award, e := m.give(c.people, seats, method, nil)
	switch {
	case e != api.OK:
		return year{}, e
	case award.Open > 0:
		return year{}, api.ErrState
	}
	return year{c, award.Seats}, api.OK
}
