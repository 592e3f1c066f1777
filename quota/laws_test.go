package quota_test

import (
	"math/rand"
	"slices"
	"testing"

	"wardmote/api"
	"wardmote/quota"
)

// P6.5

// call is a call of Give that does not fail, with its award.
type call struct {
	people        []int
	seats, method int
	least         []int
	award         api.Award
}

// calls returns calls of Give, by all methods, with and without ties and minimums.
func calls() []call {
	r := random{rand.New(rand.NewSource(5))}
	var l []call
	for len(l) < 8000 {
		x := call{people: r.census(1+r.Intn([]int{4, 60}[r.Intn(2)]), []int{3, 30, api.MaxPeople / 100}[r.Intn(3)])}
		x.seats, x.method = 1+r.Intn([]int{8, 1000}[r.Intn(2)]), methods[r.Intn(4)]
		x.least = r.least(x.people, x.seats, x.method)
		var e api.Errno
		if x.award, e = quota.Give(x.people, x.seats, x.method, x.least); e == api.OK {
			l = append(l, x)
		}
	}
	return l
}

// minimum returns the minimum of a region.
func (x call) minimum(i int) int {
	if len(x.least) == 0 {
		return 0
	}
	return x.least[i]
}

func TestSeatsAddUp(t *testing.T) {
	for _, x := range calls() {
		if total(x.award.Seats)+x.award.Open != x.seats {
			t.Errorf("%v: the seats are %d, and %d are open", x, total(x.award.Seats), x.award.Open)
		}
		if x.award.Open == 0 {
			continue
		}
		seats, e := quota.Settle(x.award, x.award.Tied)
		if total(seats) != x.seats || e != api.OK {
			t.Errorf("%v, settled: %v, error %d", x, seats, e)
		}
	}
}

func TestMorePeopleHaveNoFewerSeats(t *testing.T) {
	for _, x := range calls() {
		if x.method == api.MeDroop && total(x.least) > 0 {
			continue
		}
		for i, n := range x.people {
			for k, m := range x.people {
				if n >= m && x.minimum(i) >= x.minimum(k) && x.award.Seats[i] < x.award.Seats[k] {
					t.Errorf("%v: the region %d has fewer seats than %d", x, i, k)
				}
			}
		}
	}
}

func TestMinimumsAreKept(t *testing.T) {
	for _, x := range calls() {
		for i, seats := range x.award.Seats {
			if seats < x.minimum(i) {
				t.Errorf("%v: the region %d has fewer seats than its minimum", x, i)
			}
		}
	}
}

func TestHareKeepsTheQuota(t *testing.T) {
	for _, x := range calls() {
		if x.method != api.MeHare || total(x.least) > 0 {
			continue
		}
		settled := x.award.Seats
		if x.award.Open > 0 {
			settled, _ = quota.Settle(x.award, x.award.Tied)
		}
		for i, n := range x.people {
			exact := quotientOf(n, quotaOf(total(x.people), x.seats, x.method))
			low := down(exact)
			high := low
			if !exact.IsInt() {
				high++
			}
			for _, seats := range []int{x.award.Seats[i], settled[i]} {
				if seats < low || seats > high {
					t.Errorf("%v: the region %d, whose quotient is %v, has %d seats", x, i, exact, seats)
				}
			}
		}
	}
}

func TestMultiplesOfPeople(t *testing.T) {
	for _, x := range calls() {
		if x.method == api.MeDroop {
			continue
		}
		for _, factor := range []int{2, 3, 7, 100} {
			people := slices.Clone(x.people)
			for i := range people {
				people[i] *= factor
			}
			if got, e := quota.Give(people, x.seats, x.method, x.least); !sameAward(got, x.award) || e != api.OK {
				t.Errorf("%v, with the people times %d: %v, error %d", x, factor, got, e)
			}
		}
	}
}

func TestOtherOrdersOfRegions(t *testing.T) {
	r := rand.New(rand.NewSource(6))
	for _, x := range calls() {
		order := r.Perm(len(x.people))
		var people, least []int
		var want api.Award
		for i, from := range order {
			people = append(people, x.people[from])
			want.Seats = append(want.Seats, x.award.Seats[from])
			if len(x.least) > 0 {
				least = append(least, x.least[from])
			}
			if slices.Contains(x.award.Tied, from) {
				want.Tied = append(want.Tied, i)
			}
		}
		want.Open = x.award.Open
		if got, e := quota.Give(people, x.seats, x.method, least); !sameAward(got, want) || e != api.OK {
			t.Errorf("%v, in the order %v: %v, error %d; want %v", x, order, got, e, want)
		}
	}
}
