package fair_test

import (
	"math"
	"math/big"
	"math/rand"
	"slices"
	"sort"
	"testing"

	"wardmote/api"
	"wardmote/share"
)

// The tests compare package fair with a second one, which computes the chapter's sentences with math/big as they stand.

var methods = []int{api.MeAdams, api.MeDean, api.MeHill, api.MeWebster, api.MeJefferson}

var noMethods = []int{math.MinInt, -1, 0, api.MeHare, api.MeImperiali, api.MeAdams - 1, api.MeJefferson + 1, math.MaxInt}

func ratio(n, d int) *big.Rat { return big.NewRat(int64(n), int64(d)) }

func whole(n int) *big.Rat { return ratio(n, 1) }

func product(a, b *big.Rat) *big.Rat { return new(big.Rat).Mul(a, b) }

func quotient(a, b *big.Rat) *big.Rat { return new(big.Rat).Quo(a, b) }

func minus(a, b *big.Rat) *big.Rat { return new(big.Rat).Sub(a, b) }

// text returns the text of a share, or that it is none.
func text(a api.Share) string {
	s, e := share.Text(a)
	if e != api.OK {
		return "no share"
	}
	return s
}

// measured returns the inequality of two regions, or nil if it is infinite.
func measured(method, p, s, q, t int) *big.Rat {
	switch ratio(s, p).Cmp(ratio(t, q)) {
	case 0:
		return whole(0)
	case -1:
		p, s, q, t = q, t, p, s
	}
	switch method {
	case api.MeAdams:
		return minus(whole(s), quotient(product(whole(t), whole(p)), whole(q)))
	case api.MeDean:
		if t == 0 {
			return nil
		}
		return minus(ratio(q, t), ratio(p, s))
	case api.MeHill:
		if t == 0 {
			return nil
		}
		return minus(quotient(product(whole(s), whole(q)), product(whole(t), whole(p))), whole(1))
	case api.MeWebster:
		return minus(ratio(s, p), ratio(t, q))
	}
	return minus(quotient(product(whole(s), whole(q)), whole(p)), whole(t))
}

// helped says whether the inequality becomes less by a move.
func helped(method, p, s, q, t int) bool {
	before, behind := measured(method, p, s, q, t), measured(method, p, s-1, q, t+1)
	switch {
	case behind == nil:
		return false
	case before == nil:
		return true
	}
	return behind.Cmp(before) < 0
}

// broken returns what Breaks should. (All numbers are whole here: a quotient is parts of the people, so many as seats.)
func broken(people, won []int) [][2]int {
	var found [][2]int
	for i, n := range people {
		parts := n * total(won)
		down, up := parts/total(people), (parts+total(people)-1)/total(people)
		if won[i] < down {
			found = append(found, [2]int{i, -1})
		}
		if won[i] > up {
			found = append(found, [2]int{i, 1})
		}
	}
	return found
}

// unstable returns what Unstable should.
func unstable(people, won []int, method int) [][2]int {
	var found [][2]int
	for i, p := range people {
		for k, q := range people {
			if i != k && p > 0 && q > 0 && won[i] > 0 && helped(method, p, won[i], q, won[k]) {
				found = append(found, [2]int{i, k})
			}
		}
	}
	return found
}

// biased returns the bias, or nil if the regions with the fewest people have no seats.
func biased(people, won []int, n int) *big.Rat {
	var order []int
	for i := range people {
		if people[i] > 0 {
			order = append(order, i)
		}
	}
	// Regions of as many people stay in the order of their numbers.
	sort.SliceStable(order, func(i, k int) bool { return people[order[i]] > people[order[k]] })
	a, b, c, d := 0, 0, 0, 0
	for i, region := range order {
		if i < n {
			a, b = a+people[region], b+won[region]
		}
		if i >= len(order)-n {
			c, d = c+people[region], d+won[region]
		}
	}
	if d == 0 {
		return nil
	}
	return minus(quotient(product(whole(b), whole(c)), product(whole(a), whole(d))), whole(1))
}

// random draws arguments.
type random struct{ *rand.Rand }

// census returns a valid census of so many regions, with up to so many people each; some have none.
func (r random) census(regions, most int) []int {
	people := make([]int, regions)
	for i := range people {
		if r.Intn(8) > 0 {
			people[i] = r.Intn(most + 1)
		}
	}
	people[r.Intn(regions)] = 1 + r.Intn(most)
	return people
}

// allocation returns a census, and seats for it, many of which are near the regions' parts of them.
func (r random) allocation() (people, won []int) {
	people = r.census(1+r.Intn([]int{4, 10, 60}[r.Intn(3)]), []int{3, 30, 1000, api.MaxPeople}[r.Intn(4)])
	seats := 1 + r.Intn([]int{8, 80, 900}[r.Intn(3)])
	for _, n := range people {
		won = append(won, max(0, n*seats/total(people)+r.Intn(3)-r.Intn(2)))
	}
	for total(won) > api.MaxSeats {
		if i := r.Intn(len(won)); won[i] > 0 {
			won[i]--
		}
	}
	if total(won) == 0 {
		won[r.Intn(len(won))] = 1
	}
	return people, won
}

func total(numbers []int) int {
	sum := 0
	for _, n := range numbers {
		sum += n
	}
	return sum
}

// repeated returns a list of a number, so many times.
func repeated(n, times int) []int { return slices.Repeat([]int{n}, times) }

// with returns l with another number in the end.
func with(l []int, last int) []int { return append(slices.Clip(l), last) }

// lists returns all lists of so many numbers from 0 to most.
func lists(length, most int) [][]int {
	if length == 0 {
		return [][]int{nil}
	}
	var all [][]int
	for _, l := range lists(length-1, most) {
		for n := range most + 1 {
			all = append(all, with(l, n))
		}
	}
	return all
}

// small returns all small censuses that are valid, with up to four regions, each with all small allocations.
func small() (l [][2][]int) {
	for regions := 1; regions <= 4; regions++ {
		most := []int{0, 6, 5, 3, 2}[regions]
		for _, people := range lists(regions, most) {
			for _, won := range lists(regions, most) {
				if total(people) > 0 && total(won) > 0 {
					l = append(l, [2][]int{people, won})
				}
			}
		}
	}
	return l
}

// unchanged expects that a list is as it was.
func unchanged(t *testing.T, l, before []int, call string) {
	t.Helper()
	if !slices.Equal(l, before) {
		t.Errorf("%s wrote to an argument: %v; it was %v", call, l, before)
	}
}

// invalid are arguments that are no census with an allocation, with the error that they lead to.
var invalid = []struct {
	name        string
	people, won []int
	e           api.Errno
}{
	{"no regions", nil, nil, api.ErrQuota},
	{"no regions, not nil", []int{}, []int{}, api.ErrQuota},
	{"no regions, with a seat", nil, []int{1}, api.ErrQuota},
	{"61 regions", repeated(1, 61), repeated(1, 61), api.ErrQuota},
	{"no people", []int{0}, []int{1}, api.ErrQuota},
	{"no people in 60 regions", repeated(0, 60), repeated(1, 60), api.ErrQuota},
	{"-1 people", []int{3, -1}, []int{1, 1}, api.ErrQuota},
	{"too many people", []int{3, api.MaxPeople + 1}, []int{1, 1}, api.ErrQuota},
	{"an invalid census, and no allocation", []int{-1}, []int{-1, 5}, api.ErrQuota},
	{"no seats", []int{3, 4}, nil, api.ErrArg},
	{"no seats, not nil", []int{3, 4}, []int{}, api.ErrArg},
	{"too few elements", []int{3, 4}, []int{1}, api.ErrArg},
	{"too many elements", []int{3, 4}, []int{1, 1, 1}, api.ErrArg},
	{"too many elements, the last of which is 0", []int{3, 4}, []int{1, 1, 0}, api.ErrArg},
	{"61 elements", repeated(1, 60), repeated(1, 61), api.ErrArg},
	{"-1 seats", []int{3, 4}, []int{-1, 2}, api.ErrArg},
	{"-1 seats at the end", []int{3, 4}, []int{2, -1}, api.ErrArg},
	{"the least int", []int{3, 4}, []int{math.MinInt, 2}, api.ErrArg},
	{"1001 seats of a region", []int{3, 4}, []int{1001, 0}, api.ErrArg},
	{"1001 seats of one, and less of another", []int{3, 4}, []int{1001, -1}, api.ErrArg},
	{"a sum of 0", []int{3, 4}, []int{0, 0}, api.ErrArg},
	{"a sum of 0 in 60 regions", repeated(5, 60), repeated(0, 60), api.ErrArg},
	{"a sum of 1001", []int{3, 4}, []int{1000, 1}, api.ErrArg},
	{"another sum of 1001", []int{3, 4, 5}, []int{500, 500, 1}, api.ErrArg},
	{"a sum of 60000", repeated(5, 60), repeated(1000, 60), api.ErrArg},
	{"the greatest int", []int{3, 4}, []int{math.MaxInt, 0}, api.ErrArg},
	{"a sum beyond the greatest int", []int{3, 4}, []int{math.MaxInt, math.MaxInt}, api.ErrArg},
	{"a sum beyond the greatest int, which leads to 1", []int{3, 4, 5}, []int{math.MaxInt, math.MaxInt, 3}, api.ErrArg},
}

// limits are allocations at the limits.
var limits = [][2][]int{
	{{1}, {1}}, {{1}, {1000}}, {{api.MaxPeople}, {1}}, {{api.MaxPeople}, {1000}},
	{{0, 1}, {1, 0}}, {{0, 1}, {1000, 0}}, {{0, 1}, {0, 1000}}, {{1, 1}, {0, 1000}}, {{1, 1}, {1000, 0}}, {{1, 1}, {999, 1}},
	{{1, api.MaxPeople}, {1, 999}}, {{1, api.MaxPeople}, {1000, 0}}, {{1, api.MaxPeople}, {0, 1}}, {{api.MaxPeople, api.MaxPeople - 1}, {500, 500}},
	{repeated(1, 60), repeated(16, 60)}, {repeated(api.MaxPeople, 60), repeated(16, 60)}, {repeated(api.MaxPeople, 60), with(repeated(0, 59), 1000)},
	{with(repeated(0, 59), 1), repeated(16, 60)}, {with(repeated(0, 59), 1), with(repeated(0, 59), 1)}, {with(repeated(1, 59), api.MaxPeople), with(repeated(1, 59), 941)},
}
