package quota_test

import (
	"math/big"
	"math/rand"
	"slices"
	"testing"

	"wardmote/api"
	"wardmote/share"
)

// The tests compare package quota with a second one, which computes with math/big, and counts for each region how many
// stand before it.

var methods = []int{api.MeHare, api.MeDroop, api.MeHagenbach, api.MeImperiali}

func ratio(n, d int) *big.Rat { return big.NewRat(int64(n), int64(d)) }

func down(x *big.Rat) int { return int(new(big.Int).Div(x.Num(), x.Denom()).Int64()) }

func total(people []int) int {
	count := 0
	for _, n := range people {
		count += n
	}
	return count
}

func quotaOf(people, seats, method int) *big.Rat {
	switch method {
	case api.MeHare:
		return ratio(people, seats)
	case api.MeDroop:
		return ratio(down(ratio(people, seats+1))+1, 1)
	case api.MeHagenbach:
		return ratio(people, seats+1)
	}
	return ratio(people, seats+2)
}

func quotientOf(people int, quota *big.Rat) *big.Rat {
	return new(big.Rat).Quo(ratio(people, 1), quota)
}

// How an award can end.
const (
	filled  = "the minimums are all seats"
	nobody  = "nobody is left in the race"
	tooMany = "the quotients are more than the open seats"
	tooFew  = "there are more seats left than regions"
	ties    = "there is a tie"
	decided = "there is no tie"
)

// outcome is an award, or an error, with how it ended, and the regions that left the race, round by round.
type outcome struct {
	award api.Award
	e     api.Errno
	end   string
	left  [][]int
}

func failed(end string, left [][]int) outcome {
	return outcome{e: api.ErrFail, end: end, left: left}
}

// awarded returns what Give should.
func awarded(people []int, seats, method int, least []int) outcome {
	if len(least) == 0 {
		least = make([]int, len(people))
	}
	won, race, open := make([]int, len(people)), map[int]int{}, seats
	for i, n := range people {
		race[i] = n
	}
	var left [][]int
	for open > 0 {
		there := 0
		for _, n := range race {
			there += n
		}
		if there == 0 {
			return failed(nobody, left)
		}
		quota := quotaOf(there, open, method)
		var out []int
		for i := range people {
			if n, isThere := race[i]; isThere && quotientOf(n, quota).Cmp(ratio(least[i], 1)) < 0 {
				out = append(out, i)
			}
		}
		if len(out) == 0 {
			return divided(won, race, open, quota, left)
		}
		for _, i := range out {
			won[i] = least[i]
			open -= least[i]
			delete(race, i)
		}
		left = append(left, out)
	}
	return outcome{api.Award{Seats: won}, api.OK, filled, left}
}

// divided returns the outcome when the open seats are divided among the race.
func divided(won []int, race map[int]int, open int, quota *big.Rat, left [][]int) outcome {
	rest := map[int]*big.Rat{}
	for i, n := range race {
		quotient := quotientOf(n, quota)
		won[i] = down(quotient)
		open -= won[i]
		if n > 0 {
			rest[i] = quotient.Sub(quotient, ratio(won[i], 1))
		}
	}
	if open < 0 {
		return failed(tooMany, left)
	}
	if open > len(rest) {
		return failed(tooFew, left)
	}
	a := api.Award{Seats: won, Open: open}
	for i := range won {
		own, isThere := rest[i]
		if !isThere {
			continue
		}
		before, peers := 0, 0
		for _, other := range rest {
			switch other.Cmp(own) {
			case 1:
				before++
			case 0:
				peers++
			}
		}
		if before+peers <= open {
			won[i]++
			a.Open--
		} else if before < open {
			a.Tied = append(a.Tied, i)
		}
	}
	end := decided
	if len(a.Tied) > 0 {
		end = ties
	}
	return outcome{a, api.OK, end, left}
}

// settled returns what Settle should for a valid award, and a list of regions.
func settled(a api.Award, order []int) ([]int, api.Errno) {
	seats, open := slices.Clone(a.Seats), a.Open
	for i, number := range order {
		if open > 0 && slices.Contains(a.Tied, number) && !slices.Contains(order[:i], number) {
			seats[number]++
			open--
		}
	}
	if open > 0 {
		return nil, api.ErrNone
	}
	return seats, api.OK
}

// random draws arguments.
type random struct{ *rand.Rand }

// census returns a valid census of so many regions, with up to so many people each; some have none.
func (r random) census(regions, most int) []int {
	people := make([]int, regions)
	for i := range people {
		if r.Intn(8) > 0 {
			people[i] = r.Intn(most + 1)
		}
	}
	people[r.Intn(regions)] = 1 + r.Intn(most)
	return people
}

// least returns minimums whose sum is at most the seats, and which are often near the quotients.
func (r random) least(people []int, seats, method int) []int {
	if r.Intn(4) == 0 {
		return nil
	}
	quota := quotaOf(total(people), seats, method)
	least := make([]int, len(people))
	for i, n := range people {
		least[i] = max(0, down(quotientOf(n, quota))+r.Intn(4)-2)
		if r.Intn(8) == 0 {
			least[i] = r.Intn(seats + 1)
		}
	}
	for total(least) > seats {
		if i := r.Intn(len(least)); least[i] > 0 {
			least[i] = r.Intn(least[i])
		}
	}
	return least
}

// text returns the text of a share, or that it is none.
func text(a api.Share) string {
	s, e := share.Text(a)
	if e != api.OK {
		return "no share"
	}
	return s
}

func sameAward(a, b api.Award) bool {
	return slices.Equal(a.Seats, b.Seats) && slices.Equal(a.Tied, b.Tied) && a.Open == b.Open
}

func isEmpty(a api.Award) bool { return a.Seats == nil && a.Tied == nil && a.Open == 0 }

// repeated returns a list of a number, so many times.
func repeated(n, times int) []int { return slices.Repeat([]int{n}, times) }

// with returns l with another number in the end.
func with(l []int, last int) []int { return append(slices.Clip(l), last) }

// unchanged expects that a list is as it was.
func unchanged(t *testing.T, l, before []int, call string) {
	t.Helper()
	if !slices.Equal(l, before) {
		t.Errorf("%s wrote to an argument: %v; it was %v", call, l, before)
	}
}
