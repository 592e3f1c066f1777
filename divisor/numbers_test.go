package divisor_test

import (
	"math/big"
	"math/rand"
	"slices"
	"testing"

	"wardmote/api"
	"wardmote/share"
)

// The tests compare package divisor with a second one, which computes with math/big, and sorts all claims for all seats.

var methods = []int{api.MeAdams, api.MeDean, api.MeHill, api.MeWebster, api.MeJefferson}

func ratio(n, d int) *big.Rat { return big.NewRat(int64(n), int64(d)) }

// signpost returns the signpost of a method, but for MeHill its square.
func signpost(method, s int) *big.Rat {
	switch method {
	case api.MeAdams:
		return ratio(s, 1)
	case api.MeDean:
		return ratio(2*s*(s+1), 2*s+1)
	case api.MeHill:
		return ratio(s*(s+1), 1)
	case api.MeWebster:
		return new(big.Rat).Add(ratio(s, 1), ratio(1, 2))
	}
	return ratio(s+1, 1)
}

// rankOf returns the rank of so many people, but for MeHill its square; or nil if it is infinite.
func rankOf(method, people, s int) *big.Rat {
	post, own := signpost(method, s), ratio(people, 1)
	if post.Sign() == 0 {
		return nil
	}
	if method == api.MeHill {
		own.Mul(own, own)
	}
	return own.Quo(own, post)
}

// claim is what a region with so many people has on its next seat; its rank is nil if it is infinite.
type claim struct {
	number, people int
	rank           *big.Rat
}

// compare returns 1 if the rank of a is greater than that of b, -1 if it is less, and 0 if both are equal.
func compare(a, b claim) int {
	switch {
	case a.rank == nil && b.rank == nil:
		return ratio(a.people, 1).Cmp(ratio(b.people, 1))
	case a.rank == nil:
		return 1
	case b.rank == nil:
		return -1
	}
	return a.rank.Cmp(b.rank)
}

// How an award can end.
const (
	filled  = "the minimums are all seats"
	ties    = "there is a tie"
	decided = "there is no tie"
)

// outcome is an award, its order, and how it ended.
type outcome struct {
	award api.Award
	order []int
	end   string
}

// claims returns all claims of regions that have people, for as many seats each as are open; the greatest rank first.
func claims(people []int, method int, least []int, open int) []claim {
	var l []claim
	for i, n := range people {
		for s := range open {
			if n > 0 {
				l = append(l, claim{i, n, rankOf(method, n, least[i]+s)})
			}
		}
	}
	slices.SortStableFunc(l, func(a, b claim) int { return compare(b, a) })
	return l
}

// awarded returns what Give and Order should.
func awarded(people []int, seats, method int, least []int) outcome {
	if len(least) == 0 {
		least = repeated(0, len(people))
	}
	won, open := slices.Clone(least), seats-total(least)
	if open == 0 {
		return outcome{api.Award{Seats: won}, nil, filled}
	}
	l := claims(people, method, least, open)
	sure := open
	if open < len(l) { // the claims that equal the first one without a seat go without one, too
		for sure > 0 && compare(l[sure-1], l[open]) == 0 {
			sure--
		}
	}
	x := outcome{award: api.Award{Seats: won, Open: open - sure}, end: decided}
	for _, c := range l[:sure] {
		won[c.number]++
		x.order = append(x.order, c.number)
	}
	if sure < open {
		x.end = ties
		for _, c := range l[sure:] {
			if compare(c, l[open]) == 0 {
				x.award.Tied = append(x.award.Tied, c.number)
			}
		}
	}
	return x
}

// closest returns the fractions p / q with parts up to the limit that are nearest to a number, below and above it. The
// number is known by the order in which p / q stands to it, and less than the limit. (They are neighbours in the tree of
// Stern and Brocot.)
func closest(order func(p, q int) int, limit int) (below, above [2]int) {
	far := func(from, step [2]int, side int) [2]int {
		to := from
		// The steps are doubled as long as they lead nearer, and halved again.
		var steps []int
		for n := 1; n <= limit; n *= 2 {
			steps = append(steps, n)
		}
		slices.Reverse(steps)
		for _, n := range steps {
			next := [2]int{to[0] + n*step[0], to[1] + n*step[1]}
			if next[0] <= limit && next[1] <= limit && order(next[0], next[1]) == side {
				to = next
			}
		}
		return to
	}
	below, above = [2]int{0, 1}, [2]int{1, 0}
	for {
		middle := [2]int{below[0] + above[0], below[1] + above[1]}
		if middle[0] > limit || middle[1] > limit {
			return below, above
		}
		switch order(middle[0], middle[1]) {
		case -1:
			below = far(below, above, -1)
		case 1:
			above = far(above, below, 1)
		default:
			return far(below, middle, -1), far(above, middle, 1)
		}
	}
}

// orderOf returns the order of ranks of p people with s seats, and q with t, for a method whose signposts there are not 0.
func orderOf(method, s, t int) func(p, q int) int {
	first, second := signpost(method, s), signpost(method, t)
	return func(p, q int) int {
		a, b := ratio(p, 1), ratio(q, 1)
		if method == api.MeHill {
			a.Mul(a, a)
			b.Mul(b, b)
		}
		return a.Mul(a, second).Cmp(b.Mul(b, first))
	}
}

// random draws arguments.
type random struct{ *rand.Rand }

// census returns a valid census of so many regions, with up to so many people each; some have none.
func (r random) census(regions, most int) []int {
	people := make([]int, regions)
	for i := range people {
		if r.Intn(8) > 0 {
			people[i] = r.Intn(most + 1)
		}
	}
	people[r.Intn(regions)] = 1 + r.Intn(most)
	return people
}

// least returns minimums whose sum is at most the seats, and of which many are near the regions' parts of them.
func (r random) least(people []int, seats int) []int {
	if r.Intn(4) == 0 {
		return nil
	}
	least := make([]int, len(people))
	for i, n := range people {
		least[i] = max(0, n*seats/total(people)+r.Intn(4)-2)
		if r.Intn(8) == 0 {
			least[i] = r.Intn(seats + 1)
		}
	}
	for total(least) > seats {
		if i := r.Intn(len(least)); least[i] > 0 {
			least[i] = r.Intn(least[i])
		}
	}
	return least
}

func total(numbers []int) int {
	sum := 0
	for _, n := range numbers {
		sum += n
	}
	return sum
}

// text returns the text of a share, or that it is none.
func text(a api.Share) string {
	s, e := share.Text(a)
	if e != api.OK {
		return "no share"
	}
	return s
}

func sameAward(a, b api.Award) bool {
	return slices.Equal(a.Seats, b.Seats) && slices.Equal(a.Tied, b.Tied) && a.Open == b.Open
}

func isEmpty(a api.Award) bool { return a.Seats == nil && a.Tied == nil && a.Open == 0 }

func sure(seats ...int) api.Award { return api.Award{Seats: seats} }

func tie(tied []int, open int, seats ...int) api.Award {
	return api.Award{Seats: seats, Tied: tied, Open: open}
}

// repeated returns a list of a number, so many times.
func repeated(n, times int) []int { return slices.Repeat([]int{n}, times) }

// with returns l with another number in the end.
func with(l []int, last int) []int { return append(slices.Clip(l), last) }

// numbers returns the numbers of so many regions.
func numbers(count int) []int {
	var l []int
	for i := range count {
		l = append(l, i)
	}
	return l
}

// unchanged expects that a list is as it was.
func unchanged(t *testing.T, l, before []int, call string) {
	t.Helper()
	if !slices.Equal(l, before) {
		t.Errorf("%s wrote to an argument: %v; it was %v", call, l, before)
	}
}
