package bracket_test

import (
	"math/big"
	"math/rand"
	"slices"
	"testing"

	"wardmote/api"
	"wardmote/bracket"
	"wardmote/divisor"
	"wardmote/quota"
)

// P8.3

func certify(t *testing.T, x allocation) bool {
	t.Helper()
	certified, e := bracket.Certify(x.people, x.won, x.method, x.least)
	if e != api.OK {
		t.Errorf("Certify of %v: error %d", x, e)
	}
	return certified
}

func TestAwardsAreCertified(t *testing.T) {
	r := random{rand.New(rand.NewSource(6))}
	ties := 0
	for range 4000 {
		x := allocation{people: r.census(1+r.Intn([]int{4, 60}[r.Intn(2)]), []int{3, 30, api.MaxPeople}[r.Intn(3)])}
		seats := 1 + r.Intn([]int{8, 80, 1000}[r.Intn(3)])
		x.method, x.least = methods[r.Intn(5)], r.least(x.people, seats)
		award, _ := divisor.Give(x.people, seats, x.method, x.least)
		if award.Open > 0 {
			ties++
		}
		for range 1 + award.Open {
			x.won, _ = quota.Settle(award, r.Perm(len(x.people)))
			if !certify(t, x) {
				t.Errorf("%v is an award, but not certified", x)
			}
		}
	}
	if ties < 500 {
		t.Errorf("the test is wrong: only %d awards with ties", ties)
	}
}

// group is the seats of some regions, which all methods are to give away, with all ways in which this could be done.
type group struct {
	people, least []int
	ways          [][]int
}

// groups are all small groups.
func groups() []group {
	r := rand.New(rand.NewSource(7))
	var l []group
	for _, people := range lists(4, 3) {
		for seats := 1; seats <= 5 && total(people) > 0; seats++ {
			g := group{people: people, ways: shared(seats, len(people))}
			if r.Intn(2) > 0 {
				g.least = g.ways[r.Intn(len(g.ways))]
				for r.Intn(3) > 0 {
					g.least = slices.Clone(g.least)
					g.least[r.Intn(len(people))] = 0
				}
			}
			g.ways = slices.DeleteFunc(g.ways, func(won []int) bool {
				return slices.ContainsFunc(numbers(len(won)), func(i int) bool { return won[i] < minimum(g.least, i) })
			})
			l = append(l, g)
		}
	}
	return l
}

// shared returns all ways in which regions can share seats.
func shared(seats, regions int) [][]int {
	if regions == 1 {
		return [][]int{{seats}}
	}
	var all [][]int
	for n := range seats + 1 {
		for _, l := range shared(seats-n, regions-1) {
			all = append(all, with(l, n))
		}
	}
	return all
}

// numbers returns the numbers of so many regions.
func numbers(count int) []int {
	var l []int
	for i := range count {
		l = append(l, i)
	}
	return l
}

// certified returns the ways that are certified by a method.
func (g group) certified(t *testing.T, method int) [][]int {
	var l [][]int
	for _, won := range g.ways {
		if certify(t, allocation{g.people, won, method, g.least}) {
			l = append(l, won)
		}
	}
	return l
}

// Nothing else is certified than the ways in which the award can be settled.
func TestOnlyAwardsAreCertified(t *testing.T) {
	several := 0
	for _, g := range groups() {
		for _, method := range methods {
			award, _ := divisor.Give(g.people, total(g.ways[0]), method, g.least)
			settles := func(won []int) bool {
				more := 0
				for i, n := range won {
					extra := n - award.Seats[i]
					if extra < 0 || extra > 1 || extra == 1 && !slices.Contains(award.Tied, i) {
						return false
					}
					more += extra
				}
				return more == award.Open
			}
			found := g.certified(t, method)
			for _, won := range g.ways {
				isFound := slices.ContainsFunc(found, func(l []int) bool { return slices.Equal(l, won) })
				if isFound != settles(won) {
					t.Errorf("%v for %v with %v by the method %d is certified: %v; the award is %v", won, g.people, g.least, method, isFound, award)
				}
			}
			if len(found) > 1 {
				several++
			}
		}
	}
	if several < 500 {
		t.Errorf("the test is wrong: only %d awards with ties", several)
	}
}

// Two certified allocations differ by one seat of a region at most, and only where ranks are equal.
func TestTwoCertifiedAllocations(t *testing.T) {
	pairs := 0
	for _, g := range groups() {
		for _, method := range methods {
			found := g.certified(t, method)
			for _, one := range found {
				for _, other := range found {
					pairs += checkTwo(t, g.people, method, one, other)
				}
			}
		}
	}
	if pairs < 2000 {
		t.Errorf("the test is wrong: only %d pairs of regions", pairs)
	}
}

// checkTwo compares two allocations, and returns how many pairs of regions have more and less in the first one.
func checkTwo(t *testing.T, people []int, method int, one, other []int) int {
	t.Helper()
	pairs := 0
	for i, n := range one {
		if n > other[i]+1 {
			t.Errorf("%v for %v by the method %d is certified, and so is %v", one, people, method, other)
		}
		for k, m := range one {
			if n <= other[i] || m >= other[k] {
				continue
			}
			pairs++
			if compare(claimOf(method, people[i], n-1), claimOf(method, people[k], m)) != 0 {
				t.Errorf("%v for %v by the method %d is certified, and so is %v, but the ranks of %d and %d differ", one, people, method, other, i, k)
			}
		}
	}
	return pairs
}

// between returns a number whose order (0 if it is one of those that are looked for) is 0. The order of 0 is -1.
func between(order func(x *big.Rat) int) *big.Rat {
	low, high := ratio(0, 1), ratio(1, 1)
	for order(high) < 0 {
		low, high = high, product(high, ratio(2, 1))
	}
	for order(high) > 0 {
		middle := quotient(new(big.Rat).Add(low, high), ratio(2, 1))
		if order(middle) < 0 {
			low = middle
		} else {
			high = middle
		}
	}
	return high
}

// within returns a number strictly between the ends of a bracket; for MeHill its square is.
func within(b api.Bracket) *big.Rat {
	low, high := number(b.Low), number(b.High)
	return between(func(x *big.Rat) int {
		if b.Squared {
			x = product(x, x)
		}
		switch {
		case x.Cmp(low) <= 0:
			return -1
		case !b.Endless && x.Cmp(high) >= 0:
			return 1
		}
		return 0
	})
}

// Strictly between the ends each divisor gives every region its seats, and no other number; a region that has no more
// than its minimum would get that, or less.
func TestDivisorsWithin(t *testing.T) {
	r := random{rand.New(rand.NewSource(8))}
	checked, whole := 0, 0
	for range 5000 {
		x := r.allocation()
		b, e := bracket.Find(x.people, x.won, x.method, x.least)
		if b.Low == b.High || b.Scarce || e != api.OK {
			continue
		}
		checked++
		divisor := within(b)
		low, high, e := bracket.At(x.people, shareOf(divisor), x.method)
		if e != api.OK {
			t.Errorf("%v: At(%v): error %d", x, divisor, e)
			continue
		}
		if len(x.least) == 0 {
			whole++
		}
		for i, n := range x.won {
			isMinimum := n == minimum(x.least, i)
			if high[i] > n || !isMinimum && low[i] < n {
				t.Errorf("%v: %v gives from %v to %v", x, divisor, low, high)
			}
		}
	}
	if checked < 3000 || whole < 1000 {
		t.Errorf("the test is wrong: %d brackets, %d without minimums", checked, whole)
	}
}

// At its ends, and between them, a bracket's divisors may give each region its seats; beyond them one region gets more, or
// another one fewer. (For MeHill the ends are squares.)
func TestDivisorsAtTheEnds(t *testing.T) {
	r := random{rand.New(rand.NewSource(9))}
	checked := 0
	for range 3000 {
		x := r.allocation()
		b, _ := bracket.Find(x.people, x.won, x.method, nil)
		if b.Squared || b.Endless || b == (api.Bracket{}) {
			continue
		}
		checked++
		low, high := number(b.Low), number(b.High)
		for _, y := range []struct {
			divisor *big.Rat
			isFit   bool
		}{
			{low, true}, {high, true},
			{product(low, ratio(999999999, 1000000000)), false}, {product(high, ratio(1000000001, 1000000000)), false},
		} {
			least, greatest, e := bracket.At(x.people, shareOf(y.divisor), x.method)
			if e == api.ErrArg {
				continue
			}
			isFit := !slices.ContainsFunc(numbers(len(x.won)), func(i int) bool { return x.won[i] < least[i] || x.won[i] > greatest[i] })
			if isFit != y.isFit {
				t.Errorf("%v: %v gives from %v to %v; the bracket is %v", x, y.divisor, least, greatest, frameOf(b))
			}
		}
	}
	if checked < 500 {
		t.Errorf("the test is wrong: only %d brackets", checked)
	}
}

// A greater divisor gives no region more: its greatest numbers are no greater than the least ones before.
func TestGreaterDivisors(t *testing.T) {
	r := random{rand.New(rand.NewSource(10))}
	compared := 0
	for range 2000 {
		people, method := r.census(1+r.Intn(10), []int{30, 1000, api.MaxPeople}[r.Intn(3)]), methods[r.Intn(5)]
		n, d := 1+r.Intn(slices.Max(people)), 1+r.Intn(20)
		_, before, e := bracket.At(people, shareOf(ratio(n, d)), method)
		for _, x := range []*big.Rat{ratio(n+1, d), plus(ratio(n, d), 1000), product(ratio(n, d), ratio(1000001, 1000000)), ratio(3*n, d)} {
			_, high, eToo := bracket.At(people, shareOf(x), method)
			if e != api.OK {
				continue
			}
			low, _, _ := bracket.At(people, shareOf(ratio(n, d)), method)
			for i := range people {
				if eToo != api.OK || high[i] > low[i] || high[i] > before[i] {
					t.Errorf("%v, method %d: %d / %d gives from %v to %v, and %v at most %v, error %d", people, method, n, d, low, before, x, high, eToo)
					break
				}
			}
			compared++
		}
	}
	if compared < 2000 {
		t.Errorf("the test is wrong: only %d pairs of divisors", compared)
	}
}

// With the people times a number the bracket's ends are multiples, too, and with the regions in another order nothing changes.
func TestOtherCensuses(t *testing.T) {
	r := random{rand.New(rand.NewSource(11))}
	for range 2000 {
		x := r.allocation()
		before, e := bracket.Find(x.people, x.won, x.method, x.least)
		var y allocation
		for _, from := range r.Perm(len(x.people)) {
			y.people, y.won = append(y.people, x.people[from]), append(y.won, x.won[from])
			if len(x.least) > 0 {
				y.least = append(y.least, x.least[from])
			}
		}
		if got, eToo := bracket.Find(y.people, y.won, x.method, y.least); got != before || e != api.OK || eToo != api.OK {
			t.Errorf("%v: %v, error %d; in another order %v, error %d", x, frameOf(before), e, frameOf(got), eToo)
		}
		times := 2 + r.Intn(99)
		for i := range y.people {
			y.people[i] *= times
		}
		factor := ratio(times, 1)
		if x.method == api.MeHill {
			factor = ratio(times*times, 1)
		}
		want := frameOf(before)
		want.low, want.high = product(number(before.Low), factor).RatString(), product(number(before.High), factor).RatString()
		if got, e := bracket.Find(y.people, y.won, x.method, y.least); frameOf(got) != want || e != api.OK {
			t.Errorf("%v, with the people times %d: %v, error %d; want %v", x, times, frameOf(got), e, want)
		}
	}
}
