package bracket_test

import (
	"math/big"
	"math/rand"
	"slices"
	"testing"

	"wardmote/api"
	"wardmote/share"
)

// The tests compare package bracket with a second one, which computes with math/big, compares each last rank with each
// next one, and tries all numbers of seats.

var methods = []int{api.MeAdams, api.MeDean, api.MeHill, api.MeWebster, api.MeJefferson}

func ratio(n, d int) *big.Rat { return big.NewRat(int64(n), int64(d)) }

func product(a, b *big.Rat) *big.Rat { return new(big.Rat).Mul(a, b) }

func quotient(a, b *big.Rat) *big.Rat { return new(big.Rat).Quo(a, b) }

// power returns 2^n.
func power(n uint) *big.Rat { return new(big.Rat).SetInt(new(big.Int).Lsh(big.NewInt(1), n)) }

// plus returns a + n.
func plus(a *big.Rat, n int) *big.Rat { return new(big.Rat).Add(a, ratio(n, 1)) }

// isShort says whether a positive number is a share.
func isShort(a *big.Rat) bool { return a.Num().BitLen() <= 511 && a.Denom().BitLen() <= 511 }

// shareOf returns the share that is a, which is short.
func shareOf(a *big.Rat) api.Share {
	found, e := share.Parse(a.RatString())
	if e != api.OK {
		panic("the test is wrong: no share " + a.RatString())
	}
	return found
}

// number returns the number that a share is.
func number(a api.Share) *big.Rat {
	found, ok := new(big.Rat).SetString(text(a))
	if !ok {
		panic("no number: " + text(a))
	}
	return found
}

// text returns the text of a share, or that it is none.
func text(a api.Share) string {
	s, e := share.Text(a)
	if e != api.OK {
		return "no share"
	}
	return s
}

// signpost returns the signpost of a method, but for MeHill its square.
func signpost(method, s int) *big.Rat {
	switch method {
	case api.MeAdams:
		return ratio(s, 1)
	case api.MeDean:
		return ratio(2*s*(s+1), 2*s+1)
	case api.MeHill:
		return ratio(s*(s+1), 1)
	case api.MeWebster:
		return ratio(2*s+1, 2)
	}
	return ratio(s+1, 1)
}

// claim is what so many people have on a seat; its rank is nil if it is infinite, and for MeHill squared.
type claim struct {
	people int
	rank   *big.Rat
}

func claimOf(method, people, s int) claim {
	post, own := signpost(method, s), ratio(people, 1)
	if post.Sign() == 0 {
		return claim{people, nil}
	}
	if method == api.MeHill {
		own = product(own, own)
	}
	return claim{people, quotient(own, post)}
}

// compare returns 1 if the rank of a is greater than that of b, -1 if it is less, and 0 if both are equal.
func compare(a, b claim) int {
	switch {
	case a.rank == nil && b.rank == nil:
		return ratio(a.people, 1).Cmp(ratio(b.people, 1))
	case a.rank == nil:
		return 1
	case b.rank == nil:
		return -1
	}
	return a.rank.Cmp(b.rank)
}

// frame is a bracket with texts for its numbers.
type frame struct {
	low, high                string
	endless, scarce, squared bool
}

func frameOf(b api.Bracket) frame {
	return frame{text(b.Low), text(b.High), b.Endless, b.Scarce, b.Squared}
}

// minimum returns the minimum of a region.
func minimum(least []int, i int) int {
	if len(least) == 0 {
		return 0
	}
	return least[i]
}

// bracketed returns what Find should, or that the allocation is not certified.
func bracketed(people, won []int, method int, least []int) (frame, bool) {
	var last, next []claim
	for i, n := range people {
		if n == 0 && won[i] != minimum(least, i) {
			return frame{}, false
		}
		if n > 0 && won[i] > minimum(least, i) {
			last = append(last, claimOf(method, n, won[i]-1))
		}
		if n > 0 {
			next = append(next, claimOf(method, n, won[i]))
		}
	}
	f := frame{low: "0", high: "0", endless: true, squared: method == api.MeHill}
	low, high := ratio(0, 1), ratio(0, 1)
	for _, b := range next {
		for _, a := range last {
			if compare(a, b) < 0 {
				return frame{}, false
			}
		}
		if b.rank == nil {
			f.scarce = true
		} else if b.rank.Cmp(low) > 0 {
			low = b.rank
		}
	}
	for _, a := range last {
		if a.rank != nil && (f.endless || a.rank.Cmp(high) < 0) {
			high, f.endless = a.rank, false
		}
	}
	if !f.scarce {
		f.low = low.RatString()
	}
	f.high = high.RatString()
	return f, true
}

// given returns what At should, if nothing is wrong with the arguments by themselves.
func given(people []int, x *big.Rat, method int) (low, high []int, e api.Errno) {
	for _, n := range people {
		q := quotient(ratio(n, 1), x)
		if !isShort(q) {
			return nil, nil, api.ErrBig
		}
		if method == api.MeHill {
			q = product(q, q)
		}
		if !isShort(q) {
			return nil, nil, api.ErrBig
		}
		least, greatest := 0, 0
		for n > 0 && least <= api.MaxSeats && q.Cmp(signpost(method, least)) > 0 {
			least++
		}
		for s := 1; n > 0 && s <= api.MaxSeats+1 && signpost(method, s-1).Cmp(q) <= 0; s++ {
			greatest = s
		}
		if greatest > api.MaxSeats {
			return nil, nil, api.ErrArg
		}
		low, high = append(low, least), append(high, greatest)
	}
	return low, high, api.OK
}

// closest returns the fractions p / q with parts up to the limit that are nearest to a number, below and above it. The
// number is known by the order in which p / q stands to it, and less than the limit. (They are neighbours in the tree of
// Stern and Brocot.)
func closest(order func(p, q int) int, limit int) (below, above [2]int) {
	far := func(from, step [2]int, side int) [2]int {
		to := from
		// The steps are doubled as long as they lead nearer, and halved again.
		var steps []int
		for n := 1; n <= limit; n *= 2 {
			steps = append(steps, n)
		}
		slices.Reverse(steps)
		for _, n := range steps {
			next := [2]int{to[0] + n*step[0], to[1] + n*step[1]}
			if next[0] <= limit && next[1] <= limit && order(next[0], next[1]) == side {
				to = next
			}
		}
		return to
	}
	below, above = [2]int{0, 1}, [2]int{1, 0}
	for {
		middle := [2]int{below[0] + above[0], below[1] + above[1]}
		if middle[0] > limit || middle[1] > limit {
			return below, above
		}
		switch order(middle[0], middle[1]) {
		case -1:
			below = far(below, above, -1)
		case 1:
			above = far(above, below, 1)
		default:
			return far(below, middle, -1), far(above, middle, 1)
		}
	}
}

// orderOf returns the order of ranks of p people with s seats, and q with t, for a method whose signposts there are not 0.
func orderOf(method, s, t int) func(p, q int) int {
	first, second := signpost(method, s), signpost(method, t)
	return func(p, q int) int {
		a, b := ratio(p, 1), ratio(q, 1)
		if method == api.MeHill {
			a.Mul(a, a)
			b.Mul(b, b)
		}
		return a.Mul(a, second).Cmp(b.Mul(b, first))
	}
}

// random draws arguments.
type random struct{ *rand.Rand }

// census returns a valid census of so many regions, with up to so many people each; some have none.
func (r random) census(regions, most int) []int {
	people := make([]int, regions)
	for i := range people {
		if r.Intn(8) > 0 {
			people[i] = r.Intn(most + 1)
		}
	}
	people[r.Intn(regions)] = 1 + r.Intn(most)
	return people
}

// least returns minimums whose sum is at most the seats, and of which many are near the regions' parts of them.
func (r random) least(people []int, seats int) []int {
	if r.Intn(3) == 0 {
		return nil
	}
	least := make([]int, len(people))
	for i, n := range people {
		least[i] = max(0, n*seats/total(people)+r.Intn(4)-3)
		if r.Intn(8) == 0 {
			least[i] = r.Intn(seats + 1)
		}
	}
	for total(least) > seats {
		if i := r.Intn(len(least)); least[i] > 0 {
			least[i] = r.Intn(least[i])
		}
	}
	return least
}

func total(numbers []int) int {
	sum := 0
	for _, n := range numbers {
		sum += n
	}
	return sum
}

// repeated returns a list of a number, so many times.
func repeated(n, times int) []int { return slices.Repeat([]int{n}, times) }

// with returns l with another number in the end.
func with(l []int, last int) []int { return append(slices.Clip(l), last) }

// lists returns all lists of one up to so many numbers from 0 to most.
func lists(length, most int) [][]int {
	if length == 0 {
		return nil
	}
	all := [][]int{}
	for n := range most + 1 {
		all = append(all, []int{n})
	}
	for _, l := range lists(length-1, most) {
		for n := range most + 1 {
			all = append(all, with(l, n))
		}
	}
	return all
}

// unchanged expects that a list is as it was.
func unchanged(t *testing.T, l, before []int, call string) {
	t.Helper()
	if !slices.Equal(l, before) {
		t.Errorf("%s wrote to an argument: %v; it was %v", call, l, before)
	}
}
