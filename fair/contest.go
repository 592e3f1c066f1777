package fair

import (
	"wardmote/api"
	"wardmote/share"
)

// contest is two sides, of which the first one has more seats per person.
type contest struct{ favoured, other side }

// fraction is a number of ints, or infinite if the lower one is 0. Products of the people of two regions are at most
// 10^18, so that ints are long enough for all inequalities.
type fraction struct{ upper, lower int }

// inequality returns the inequality of two sides by a method.
func inequality(one, other side, method int) fraction {
	lead := one.lead(other)
	if lead == 0 {
		return fraction{0, 1}
	}
	c := contest{one, other}
	if lead < 0 {
		c = contest{other, one}
	}
	inequalities := [...]func(contest) fraction{
		api.MeAdams:     contest.adams,
		api.MeDean:      contest.dean,
		api.MeHill:      contest.hill,
		api.MeWebster:   contest.webster,
		api.MeJefferson: contest.jefferson,
	}
	return inequalities[method](c)
}

// All inequalities are the lead, divided by a number of their own.
func (c contest) lead() int { return c.favoured.lead(c.other) }

func (c contest) adams() fraction {
	return fraction{c.lead(), c.other.people}
}

func (c contest) dean() fraction {
	return fraction{c.lead(), product(c.favoured.seats, c.other.seats)}
}

func (c contest) hill() fraction {
	return fraction{c.lead(), product(c.other.seats, c.favoured.people)}
}

func (c contest) webster() fraction {
	return fraction{c.lead(), product(c.favoured.people, c.other.people)}
}

func (c contest) jefferson() fraction {
	return fraction{c.lead(), c.favoured.people}
}

// share returns f as a share, or ErrZero if it is infinite.
func (f fraction) share() (api.Share, api.Errno) {
	return share.Of(f.upper, f.lower)
}

// isLess says whether f is less than g. What is infinite is not less than anything, and greater than all finite numbers.
func (f fraction) isLess(g fraction) bool {
	a, e := f.share()
	if e != api.OK {
		return false
	}
	b, e := g.share()
	if e != api.OK {
		return true
	}
	order, _ := share.Cmp(a, b)
	return order < 0
}

// helps says whether a move of a seat from s to another side makes the inequality of both less. s has a seat.
func (s side) helps(to side, method int) bool {
	before := inequality(s, to, method)
	s.seats--
	to.seats++
	return inequality(s, to, method).isLess(before)
}
