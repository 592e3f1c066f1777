package paradox_test

import (
	"math/rand"
	"slices"
	"testing"

	"wardmote/api"
	"wardmote/paradox"
)

// P10.5

// checkNoHouse expects that a method of divisors knows no loss by growth of the house.
func checkNoHouse(t *testing.T, people []int, method, from, to int) {
	t.Helper()
	if got, e := paradox.House(people, method, from, to); len(got) != 0 || e != api.OK {
		t.Errorf("House(%v, %d, %d, %d): %v, error %d", people, method, from, to, got, e)
	}
	if seats, region, e := paradox.First(people, method, from, to); e != api.ErrNone {
		t.Errorf("First(%v, %d, %d, %d): %d, %d, error %d", people, method, from, to, seats, region, e)
	}
}

func TestDivisorsAndHouses(t *testing.T) {
	for _, people := range slices.Concat(censuses(2, 8), censuses(3, 6), censuses(4, 3)) {
		for _, method := range divisors {
			checkNoHouse(t, people, method, 1, 30)
		}
	}
	r := random{rand.New(rand.NewSource(9))}
	for range 250 {
		people := r.census(1+r.Intn([]int{4, 10, 60}[r.Intn(3)]), []int{30, 1000, api.MaxPeople}[r.Intn(3)])
		from := 1 + r.Intn([]int{10, 100, 900}[r.Intn(3)])
		checkNoHouse(t, people, divisors[r.Intn(5)], from, from+r.Intn(101))
	}
}

// checkNoPeople expects that a method of divisors knows no loss by growth of people, and says whether both are decided.
func checkNoPeople(t *testing.T, before, after []int, seats, method int) bool {
	t.Helper()
	got, e := paradox.People(before, after, seats, method)
	if len(got) != 0 || e != api.OK && e != api.ErrState {
		t.Errorf("People(%v, %v, %d, %d): %v, error %d", before, after, seats, method, got, e)
	}
	return e == api.OK
}

func TestDivisorsAndPeople(t *testing.T) {
	all, some, calls := censuses(3, 4), 0, 0
	for _, before := range all {
		for _, after := range all {
			if checkNoPeople(t, before, after, 1+calls%9, divisors[calls%5]) {
				some++
			}
			calls++
		}
	}
	r := random{rand.New(rand.NewSource(10))}
	changed := 0
	for range 15000 {
		before := r.census(2+r.Intn([]int{4, 10, 59}[r.Intn(3)]), []int{30, 1000, api.MaxPeople}[r.Intn(3)])
		after := r.grown(before)
		seats, method := 1+r.Intn([]int{8, 80, 300}[r.Intn(3)]), divisors[r.Intn(5)]
		if checkNoPeople(t, before, after, seats, method) {
			won, _ := decided(before, seats, method)
			now, _ := decided(after, seats, method)
			if !slices.Equal(won, now) {
				changed++
			}
		}
	}
	if some < 3000 || changed < 2000 {
		t.Errorf("the test is wrong: %d pairs of small censuses, and %d of others, whose allocations differ", some, changed)
	}
}

// checkNoArrival expects that a method of divisors knows no change by arrival, and says whether there was one.
func checkNoArrival(t *testing.T, people []int, seats, method, newcomer, more int) bool {
	t.Helper()
	got, e := paradox.Arrival(people, seats, method, newcomer, more)
	if len(got) != 0 || e != api.OK && e != api.ErrState && e != api.ErrNone {
		t.Errorf("Arrival(%v, %d, %d, %d, %d): %v, error %d", people, seats, method, newcomer, more, got, e)
	}
	return e == api.OK
}

func TestDivisorsAndArrivals(t *testing.T) {
	some := 0
	for _, people := range slices.Concat(censuses(2, 6), censuses(3, 4)) {
		for _, method := range divisors {
			for x := range 8 * 6 * 3 {
				if checkNoArrival(t, people, 1+x%8, method, 1+x/8%6, 1+x/48) {
					some++
				}
			}
		}
	}
	r := random{rand.New(rand.NewSource(11))}
	others := 0
	for range 10000 {
		most := []int{30, 1000, api.MaxPeople}[r.Intn(3)]
		people := r.census(1+r.Intn([]int{4, 10, 59}[r.Intn(3)]), most)
		method := divisors[r.Intn(5)]
		seats, newcomer, more := r.arrival(people, most, 1+r.Intn([]int{8, 80, 300}[r.Intn(3)]), method)
		if checkNoArrival(t, people, seats, method, newcomer, more) {
			others++
		}
	}
	if some < 5000 || others < 2000 {
		t.Errorf("the test is wrong: %d arrivals at small censuses, and %d at others", some, others)
	}
}
