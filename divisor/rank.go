package divisor

import (
	"math/bits"

	"wardmote/api"
)

// ratio is n / d in lowest terms, or infinite with d = 0; neither is negative. Since there are at most 10^9 people, and
// 1000 seats, n is at most 10^18, and d less than 10^7.
type ratio struct{ n, d int }

// ratioOf returns the product of the factors, divided by d. If d is 0, the product is kept as it is, since it tells
// which one of two infinite ranks is the greater one.
func ratioOf(d int, factors ...int) ratio {
	n := 1
	for _, factor := range factors {
		n *= factor
	}
	if d == 0 {
		return ratio{n, 0}
	}
	divisor := commonDivisor(n, d)
	return ratio{n / divisor, d / divisor}
}

// commonDivisor returns the greatest common divisor of two numbers of which one is not 0.
func commonDivisor(a, b int) int {
	for b > 0 {
		a, b = b, a%b
	}
	return a
}

// compare returns -1, 0 or 1 if r is less than, equal to or greater than q. Since both are in lowest terms, equal ones
// are equal pairs.
func (r ratio) compare(q ratio) int {
	switch {
	case r == q:
		return 0
	case r.isAbove(q):
		return 1
	}
	return -1
}

// isAbove says whether r is greater than q.
func (r ratio) isAbove(q ratio) bool {
	if r.d == 0 && q.d == 0 {
		return r.n > q.n
	}
	// The products may be too long for an int.
	high, low := bits.Mul64(uint64(r.n), uint64(q.d))
	otherHigh, otherLow := bits.Mul64(uint64(q.n), uint64(r.d))
	return high > otherHigh || high == otherHigh && low > otherLow
}

// holding is what a region has.
type holding struct{ seats int }

// signpost returns the signpost of a method at h, but for MeHill its square.
func (h holding) signpost(method int) ratio {
	signposts := [...]func(holding) ratio{
		api.MeAdams:     holding.adams,
		api.MeDean:      holding.dean,
		api.MeHill:      holding.hill,
		api.MeWebster:   holding.webster,
		api.MeJefferson: holding.jefferson,
	}
	return signposts[method](h)
}

func (h holding) adams() ratio {
	return ratioOf(1, h.seats)
}

func (h holding) dean() ratio {
	return ratioOf(2*h.seats+1, 2, h.seats, h.seats+1)
}

func (h holding) hill() ratio {
	return ratioOf(1, h.seats, h.seats+1)
}

func (h holding) webster() ratio {
	return ratioOf(2, 2*h.seats+1)
}

func (h holding) jefferson() ratio {
	return ratioOf(1, h.seats+1)
}

// rank returns people divided by the signpost of a method, but for MeHill the square of that, whose order is the same.
func rank(method, people, seats int) ratio {
	post := holding{seats}.signpost(method)
	if method == api.MeHill {
		return ratioOf(post.n, post.d, people, people)
	}
	return ratioOf(post.n, post.d, people)
}
