package paradox_test

import (
	"math"
	"math/big"
	"math/rand"
	"slices"
	"testing"

	"wardmote/api"
	"wardmote/divisor"
	"wardmote/quota"
)

// The tests compare package paradox with a second one, which computes the chapter's sentences as they stand, with the
// awards of packages quota and divisor, and with math/big for growth.

var quotas = []int{api.MeHare, api.MeDroop, api.MeHagenbach, api.MeImperiali}

var divisors = []int{api.MeAdams, api.MeDean, api.MeHill, api.MeWebster, api.MeJefferson}

var methods = slices.Concat(quotas, divisors)

// noMethods has numbers before, between and behind the methods.
var noMethods = []int{math.MinInt, -1, api.MeHare - 1, api.MeImperiali + 1, 7, api.MeAdams - 1, api.MeJefferson + 1, math.MaxInt}

// decided returns what Decided should.
func decided(people []int, seats, method int) ([]int, api.Errno) {
	give := quota.Give
	if method >= api.MeAdams {
		give = divisor.Give
	}
	award, e := give(people, seats, method, nil)
	switch {
	case e != api.OK:
		return nil, e
	case award.Open > 0:
		return nil, api.ErrState
	}
	return award.Seats, api.OK
}

// shrunk returns what House should.
func shrunk(people []int, method, from, to int) [][2]int {
	var won [][]int
	for s := from; s <= to; s++ {
		seats, _ := decided(people, s, method)
		won = append(won, seats)
	}
	var found [][2]int
	for i := 1; i < len(won); i++ {
		for region := range people {
			if won[i-1] != nil && won[i] != nil && won[i][region] < won[i-1][region] {
				found = append(found, [2]int{from + i, region})
			}
		}
	}
	return found
}

// growth returns the people of a second census in proportion to those of the first one, of whom there are some.
func growth(before, after int) *big.Rat { return big.NewRat(int64(after), int64(before)) }

// wronged returns what People should, where there are two decided allocations.
func wronged(before, after, won, now []int) [][2]int {
	var found [][2]int
	for i := range before {
		for k := range before {
			if before[i] > 0 && before[k] > 0 && growth(before[i], after[i]).Cmp(growth(before[k], after[k])) > 0 &&
				now[i] < won[i] && now[k] > won[k] {
				found = append(found, [2]int{i, k})
			}
		}
	}
	return found
}

// arrived returns what Arrival should, for arguments that have their limits.
func arrived(people []int, seats, method, newcomer, more int) ([]int, api.Errno) {
	won, e := decided(people, seats, method)
	if e != api.OK {
		return nil, e
	}
	now, e := decided(with(people, newcomer), seats+more, method)
	if e != api.OK {
		return nil, e
	}
	if now[len(people)] != more {
		return nil, api.ErrNone
	}
	var found []int
	for i := range people {
		if now[i] != won[i] {
			found = append(found, i)
		}
	}
	return found, api.OK
}

// random draws arguments.
type random struct{ *rand.Rand }

// census returns a valid census of so many regions, with up to so many people each. Some have none, and others much less.
func (r random) census(regions, most int) []int {
	people := make([]int, regions)
	for i := range people {
		switch r.Intn(16) {
		case 0, 1:
		case 2, 3, 4, 5, 6, 7:
			people[i] = r.Intn(most/10 + 2)
		default:
			people[i] = r.Intn(most + 1)
		}
	}
	people[r.Intn(regions)] = 1 + r.Intn(most)
	return people
}

// grown returns a census behind another one: most of its regions are nearly as they were.
func (r random) grown(people []int) []int {
	after := slices.Clone(people)
	for i, n := range people {
		switch r.Intn(30) {
		case 0:
			after[i] = r.Intn(2*n + 2)
		case 1:
			after[i] = n + r.Intn(3) - 1
		case 2, 3, 4:
		default:
			after[i] = n + r.Intn(n/8+1) - r.Intn(n/8+1)
		}
		after[i] = min(max(after[i], 0), api.MaxPeople)
	}
	if total(after) == 0 {
		after[r.Intn(len(after))] = 1
	}
	return after
}

func total(numbers []int) int {
	sum := 0
	for _, n := range numbers {
		sum += n
	}
	return sum
}

// repeated returns a list of a number, so many times.
func repeated(n, times int) []int { return slices.Repeat([]int{n}, times) }

// with returns l with another number in the end.
func with(l []int, last int) []int { return append(slices.Clip(l), last) }

// rising returns so many numbers of people, no two of which are equal.
func rising(regions int) []int {
	var people []int
	for i := range regions {
		people = append(people, 1000003+i*(i+7919))
	}
	return people
}

// lists returns all lists of so many numbers from 0 to most.
func lists(length, most int) [][]int {
	if length == 0 {
		return [][]int{nil}
	}
	var all [][]int
	for _, l := range lists(length-1, most) {
		for n := range most + 1 {
			all = append(all, with(l, n))
		}
	}
	return all
}

// censuses returns all valid censuses of so many regions, with up to so many people each.
func censuses(regions, most int) [][]int {
	return slices.DeleteFunc(lists(regions, most), func(people []int) bool { return total(people) == 0 })
}

// unchanged expects that a list is as it was.
func unchanged(t *testing.T, l, before []int, call string) {
	t.Helper()
	if !slices.Equal(l, before) {
		t.Errorf("%s wrote to an argument: %v; it was %v", call, l, before)
	}
}

// invalid are lists that are no census.
var invalid = [][]int{
	nil, {}, {0}, {0, 0}, repeated(0, 60), repeated(1, 61), with(repeated(0, 60), 1), {-1}, {3, -1}, {-1, 3}, {api.MaxPeople + 1},
	{3, api.MaxPeople + 1}, {math.MaxInt, 1}, {math.MaxInt, math.MaxInt, 3}, {math.MinInt, math.MinInt}, {5, math.MinInt},
}
