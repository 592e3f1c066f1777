package divisor_test

import (
	"math/rand"
	"slices"
	"testing"

	"wardmote/api"
	"wardmote/divisor"
	"wardmote/quota"
)

// P7.4

// call is a call of Give, with its award.
type call struct {
	people        []int
	seats, method int
	least         []int
	award         api.Award
}

// calls returns calls of Give, by all methods, with and without ties and minimums.
func calls() []call {
	r := random{rand.New(rand.NewSource(6))}
	var l []call
	for range 5000 {
		x := call{people: r.census(1+r.Intn([]int{4, 60}[r.Intn(2)]), []int{3, 30, api.MaxPeople / 100}[r.Intn(3)])}
		x.seats, x.method = 1+r.Intn([]int{8, 80, 999}[r.Intn(3)]), methods[r.Intn(5)]
		x.least = r.least(x.people, x.seats)
		x.award, _ = divisor.Give(x.people, x.seats, x.method, x.least)
		l = append(l, x)
	}
	return l
}

// minimum returns the minimum of a region.
func (x call) minimum(i int) int {
	if len(x.least) == 0 {
		return 0
	}
	return x.least[i]
}

func TestSeatsAddUp(t *testing.T) {
	settled := 0
	for _, x := range calls() {
		if total(x.award.Seats)+x.award.Open != x.seats {
			t.Errorf("%v: the seats are %d, and %d are open", x, total(x.award.Seats), x.award.Open)
		}
		seats, e := quota.Settle(x.award, x.award.Tied)
		if total(seats) != x.seats || e != api.OK {
			t.Errorf("%v, settled: %v, error %d", x, seats, e)
		}
		settled += x.award.Open
	}
	if settled < 1000 {
		t.Errorf("the test is wrong: only %d open seats", settled)
	}
}

func TestMinimumsAreKept(t *testing.T) {
	for _, x := range calls() {
		order, _ := divisor.Order(x.people, x.seats, x.method, x.least)
		seats := slices.Clone(x.least)
		if len(seats) == 0 {
			seats = repeated(0, len(x.people))
		}
		for _, number := range order {
			seats[number]++
		}
		if !slices.Equal(seats, x.award.Seats) {
			t.Errorf("%v: the minimums and the order %v lead to %v", x, order, seats)
		}
	}
}

func TestOneSeatMore(t *testing.T) {
	for _, x := range calls() {
		more, e := divisor.Give(x.people, x.seats+1, x.method, x.least)
		if e != api.OK {
			t.Errorf("%v, with one seat more: error %d", x, e)
		}
		for i, seats := range x.award.Seats {
			if more.Seats[i] < seats {
				t.Errorf("%v: with one seat more, the region %d has fewer", x, i)
			}
		}
		order, _ := divisor.Order(x.people, x.seats, x.method, x.least)
		longer, _ := divisor.Order(x.people, x.seats+1, x.method, x.least)
		if len(longer) < len(order) || !slices.Equal(longer[:len(order)], order) {
			t.Errorf("%v: the order is %v, and with one seat more %v", x, order, longer)
		}
	}
}

func TestMultiplesOfPeople(t *testing.T) {
	for _, x := range calls() {
		order, _ := divisor.Order(x.people, x.seats, x.method, x.least)
		for _, factor := range []int{2, 3, 100} {
			people := slices.Clone(x.people)
			for i := range people {
				people[i] *= factor
			}
			if got, e := divisor.Give(people, x.seats, x.method, x.least); !sameAward(got, x.award) || e != api.OK {
				t.Errorf("%v, with the people times %d: %v, error %d", x, factor, got, e)
			}
			if got, e := divisor.Order(people, x.seats, x.method, x.least); !slices.Equal(got, order) || e != api.OK {
				t.Errorf("%v, with the people times %d: the order is %v, error %d; it was %v", x, factor, got, e, order)
			}
		}
	}
}

func TestMorePeopleHaveNoFewerSeats(t *testing.T) {
	for _, x := range calls() {
		for i, n := range x.people {
			for k, m := range x.people {
				if n >= m && x.minimum(i) >= x.minimum(k) && x.award.Seats[i] < x.award.Seats[k] {
					t.Errorf("%v: the region %d has fewer seats than %d", x, i, k)
				}
			}
		}
	}
}

func TestMethodsInTheirOrder(t *testing.T) {
	r := random{rand.New(rand.NewSource(7))}
	pairs, differ := 0, 0
	for range 3000 {
		people := r.census(2+r.Intn(20), []int{30, 1000, api.MaxPeople}[r.Intn(3)])
		seats := 1 + r.Intn([]int{8, 80}[r.Intn(2)])
		slices.SortFunc(people, func(a, b int) int { return b - a })
		var before []int
		for _, method := range methods {
			a, _ := divisor.Give(people, seats, method, nil)
			if a.Open > 0 {
				continue
			}
			if before != nil {
				pairs++
				if !slices.Equal(before, a.Seats) {
					differ++
				}
			}
			for k := range before {
				if total(a.Seats[:k]) < total(before[:k]) {
					t.Errorf("%d seats for %v: by the method %d %v, and by one before it %v", seats, people, method, a.Seats, before)
				}
			}
			before = a.Seats
		}
	}
	if pairs < 5000 || differ < 1000 {
		t.Errorf("the test is wrong: %d pairs of awards, of which %d differ", pairs, differ)
	}
}

func TestOtherOrdersOfRegions(t *testing.T) {
	r := rand.New(rand.NewSource(8))
	for _, x := range calls() {
		order := r.Perm(len(x.people))
		var people, least []int
		var want api.Award
		for i, from := range order {
			people = append(people, x.people[from])
			want.Seats = append(want.Seats, x.award.Seats[from])
			if len(x.least) > 0 {
				least = append(least, x.least[from])
			}
			if slices.Contains(x.award.Tied, from) {
				want.Tied = append(want.Tied, i)
			}
		}
		want.Open = x.award.Open
		if got, e := divisor.Give(people, x.seats, x.method, least); !sameAward(got, want) || e != api.OK {
			t.Errorf("%v, in the order %v: %v, error %d; want %v", x, order, got, e, want)
		}
	}
}
