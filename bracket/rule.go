package bracket

import (
	"sort"

	"wardmote/api"
	"wardmote/divisor"
	"wardmote/share"
)

// rule is a method of divisors.
type rule int

// signpost returns the signpost at s seats, but for MeHill its square.
func (r rule) signpost(s int) api.Share {
	post, _ := divisor.Post(int(r), s)
	return post
}

// quotient returns people divided by x, which is above 0, but for MeHill the square of that; or ErrBig.
func (r rule) quotient(people int, x api.Share) (api.Share, api.Errno) {
	all, _ := share.Of(people, 1)
	q, e := share.Div(all, x)
	if e != api.OK || r != api.MeHill {
		return q, e
	}
	return share.Mul(q, q)
}

// numbers returns the least and the greatest number of seats that x gives to so many people, of whom there are some;
// ErrBig or ErrArg.
func (r rule) numbers(people int, x api.Share) (least, greatest int, e api.Errno) {
	q, e := r.quotient(people, x)
	if e != api.OK {
		return 0, 0, e
	}
	least = first(r.signpost, func(order int) bool { return order >= 0 }, q)
	// The signpost at one seat less is at most q as long as the one at so many seats is not above it for the first time.
	greatest = first(r.signpost, func(order int) bool { return order > 0 }, q)
	if greatest > api.MaxSeats {
		return 0, 0, api.ErrArg
	}
	return least, greatest, api.OK
}

// first returns the first number of seats, from 0 to MaxSeats, whose signpost stands in such an order to q; or MaxSeats + 1.
// Signposts rise, so that all those behind it do, too.
func first(signpost func(s int) api.Share, fits func(order int) bool, q api.Share) int {
	return sort.Search(api.MaxSeats+1, func(s int) bool {
		order, _ := share.Cmp(signpost(s), q)
		return fits(order)
	})
}
