package fair_test

import (
	"math/rand"
	"slices"
	"testing"

	"wardmote/api"
	"wardmote/bracket"
	"wardmote/divisor"
	"wardmote/fair"
	"wardmote/quota"
	"wardmote/share"
)

// P9.5

// The inequality is not negative, 0 only for the same seats per person, and the same in both orders.
func TestInequalities(t *testing.T) {
	r := random{rand.New(rand.NewSource(6))}
	zeros := 0
	check := func(method, p, s, q, u int) {
		one, e := fair.Measure(method, p, s, q, u)
		other, f := fair.Measure(method, q, u, p, s)
		if one != other || e != f {
			t.Errorf("method %d, %d %d and %d %d: %s, error %d; in the other order %s, error %d", method, p, s, q, u, text(one), e, text(other), f)
		}
		sign, f := share.Sign(one)
		if e == api.OK && (f != api.OK || sign < 0 || (sign == 0) != (s*q == u*p)) {
			t.Errorf("method %d, %d %d and %d %d: %s", method, p, s, q, u, text(one))
		}
		if e == api.OK && sign == 0 {
			zeros++
		}
	}
	for _, x := range lists(4, 5) {
		for _, method := range methods {
			check(method, x[0]+1, x[1], x[2]+1, x[3])
		}
	}
	for range 5000 {
		p, s := 1+r.Intn(api.MaxPeople), r.Intn(1001)
		q, u := 1+r.Intn(api.MaxPeople), r.Intn(1001)
		if r.Intn(2) == 0 {
			n := 1 + r.Intn(20)
			p, s, q, u = p/20+1, s/20, n*(p/20+1), n*(s/20)
		}
		check(methods[r.Intn(5)], min(p, api.MaxPeople), s, min(q, api.MaxPeople), u)
	}
	if zeros < 2000 {
		t.Errorf("the test is wrong: only %d inequalities of 0", zeros)
	}
}

// isSeated says whether all regions with people have seats, and the others have none.
func isSeated(people, won []int) (all, none bool) {
	all, none = true, true
	for i, n := range people {
		all = all && (n == 0 || won[i] > 0)
		none = none && (n > 0 || won[i] == 0)
	}
	return all, none
}

// What is certified under a method of divisors is what no move helps.
func TestCertifiedAllocationsAreStable(t *testing.T) {
	r := random{rand.New(rand.NewSource(7))}
	all := append(small(), limits...)
	for range 1500 {
		people, won := r.allocation()
		all = append(all, [2][]int{people, won})
		award, _ := divisor.Give(people, total(won), methods[r.Intn(5)], nil)
		settled, _ := quota.Settle(award, r.Perm(len(people)))
		all = append(all, [2][]int{people, settled})
	}
	stable, not, without := 0, 0, 0
	for _, x := range all {
		haveAll, haveNone := isSeated(x[0], x[1])
		for _, method := range methods {
			if !haveNone || !haveAll && method != api.MeWebster && method != api.MeJefferson {
				continue
			}
			certified, _ := bracket.Certify(x[0], x[1], method, nil)
			pairs, e := fair.Unstable(x[0], x[1], method)
			if e != api.OK || certified != (len(pairs) == 0) {
				t.Errorf("%v for %v by the method %d is certified: %v; unstable: %v, error %d", x[1], x[0], method, certified, pairs, e)
			}
			switch {
			case !certified:
				not++
			case haveAll:
				stable++
			default:
				without++
			}
		}
	}
	if stable < 3000 || not < 3000 || without < 300 {
		t.Errorf("the test is wrong: %d stable, %d not, %d with regions that have none", stable, not, without)
	}
}

// settle returns a way to settle an award.
func settle(r random, award api.Award) []int {
	won, _ := quota.Settle(award, r.Perm(len(award.Seats)))
	return won
}

// sidesOf returns on which sides the quota rule is broken.
func sidesOf(t *testing.T, people, won []int) (below, above bool) {
	t.Helper()
	found, e := fair.Breaks(people, won)
	if e != api.OK {
		t.Errorf("Breaks(%v, %v): error %d", people, won, e)
	}
	side := func(n int) bool { return slices.ContainsFunc(found, func(x [2]int) bool { return x[1] == n }) }
	return side(-1), side(1)
}

func TestAwardsAndTheQuotaRule(t *testing.T) {
	r := random{rand.New(rand.NewSource(8))}
	counts := map[string]int{}
	for range 6000 {
		people := r.census(1+r.Intn([]int{4, 10, 60}[r.Intn(3)]), []int{3, 30, 1000, api.MaxPeople}[r.Intn(4)])
		if r.Intn(3) == 0 {
			// One region is as large as all others together, so that it gets more by MeJefferson, and less by MeAdams.
			people[r.Intn(len(people))] = min(max(1, total(people)), api.MaxPeople)
		}
		seats := 1 + r.Intn([]int{8, 80, 1000}[r.Intn(3)])
		award, _ := quota.Give(people, seats, api.MeHare, nil)
		if below, above := sidesOf(t, people, settle(r, award)); below || above {
			t.Errorf("%v, %d seats: MeHare breaks the quota rule with %v", people, seats, award)
		}
		award, _ = divisor.Give(people, seats, api.MeJefferson, nil)
		below, above := sidesOf(t, people, settle(r, award))
		if below {
			t.Errorf("%v, %d seats: MeJefferson breaks the quota rule from below with %v", people, seats, award)
		}
		if above {
			counts["MeJefferson from above"]++
		}
		award, _ = divisor.Give(people, seats, api.MeAdams, nil)
		below, above = sidesOf(t, people, settle(r, award))
		if above {
			t.Errorf("%v, %d seats: MeAdams breaks the quota rule from above with %v", people, seats, award)
		}
		if below {
			counts["MeAdams from below"]++
		}
	}
	for _, x := range []string{"MeJefferson from above", "MeAdams from below"} {
		if counts[x] < 200 {
			t.Errorf("the test is wrong: only %d times %s", counts[x], x)
		}
	}
}
